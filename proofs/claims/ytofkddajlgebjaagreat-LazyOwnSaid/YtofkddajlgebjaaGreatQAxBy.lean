/- The document's messages of back: their bytes, one behind the other. -/
import Derived.Test.YtofkddajlgebjaaGreatQAxFm
import Derived.Test.YtofkddajlgebjaaGreatQAxWo
import Derived.Test.YtofkddajlgebjaaGreatQAxPl
import Derived.Test.YtofkddajlgebjaaGreatQCodeA
import Derived.Test.YtofkddajlgebjaaGreatQAxTz
import Derived.Test.YtofkddajlgebjaaGreatQAxBs
import Derived.Test.YtofkddajlgebjaaGreatQAxBw
/- remudaplain.Front, .Fronts: messages that are short enough to be tried, over values without memory. -/
namespace Go.Proofs.YtofkddajlgebjaaGreat.Ax
open Go.RowKit Go By YtofkddajlgebjaaGreat.Nm Sc Dg
set_option linter.unusedSimpArgs false
set_option linter.unusedVariables false
set_option maxRecDepth 10000

end Go.Proofs.YtofkddajlgebjaaGreat.Ax
/- The statements of layer 6 (front) as contracts. -/
namespace Go.Proofs.YtofkddajlgebjaaGreat.Ax
open Go.RowKit Go By YtofkddajlgebjaaGreat.Nm Sc Dg
open He (textL)
set_option linter.unusedSimpArgs false
set_option linter.unusedVariables false
set_option maxRecDepth 10000

/-! ### Sizes -/
/-! ### What Decode answers on both sides is one -/
/-! ### The statements -/
end Go.Proofs.YtofkddajlgebjaaGreat.Ax
/- The statements of layer 7 (back) as contracts. -/
namespace Go.Proofs.YtofkddajlgebjaaGreat.Ax
open Go.RowKit Go By YtofkddajlgebjaaGreat.Nm Sc Dg
open He (textL)
set_option linter.unusedSimpArgs false
set_option linter.unusedVariables false
set_option maxRecDepth 10000

/-! ### Messages that are short enough -/
end Go.Proofs.YtofkddajlgebjaaGreat.Ax
/- The document's messages of back as bytes, over values without memory. -/
namespace Go.Proofs.YtofkddajlgebjaaGreat.Ax
open Go.RowKit Go By YtofkddajlgebjaaGreat.Nm Sc Dg
open He (textL)
set_option linter.unusedSimpArgs false
set_option linter.unusedVariables false
set_option maxRecDepth 10000

theorem put_app (xs : List UInt8) (n size : Int) : putL xs n size = xs ++ numE size n := putL_eq xs n size
theorem colE_eq (c : Co) : colE c = He.encT c.name ++ numE 4 c.table ++ numE 2 c.attr ++ numE 4 c.oid ++ numE 2 c.size ++ numE 4 c.mod ++ numE 2 c.format := by
  simp [colE, textsL]
theorem rbdescribed_c (l : List Co) (hl : (listL colE l).length ≤ 140737488351232) (hn : l.length ≤ 140737488355328) (h : List (List AV)) :
    Contract Tryz.prog 44 [.sl 7 (enc coC l) none .no] h (.sl 1 (bytesE (listL colE l)) none (.own .res)) h [] := by
  refine contract_of k44 mixed (by simp [c44]) fun hh hargs => ?_
  simp [c44]
  refine xcall_of (rput_c [] l.length 2 (by simp) h) (by simp) (by simp) ?_
  simp
  have e0 : putL [] l.length 2 = putL [] l.length 2 ++ (l.take 0).flatMap colE := by simp
  rw [e0]
  refine xloop_ok (D := Nat) (fun j => ⟨[(0, .sl 7 (enc coC l) none .no), (4, .v (.int .i64 j))], [(3, .sl 1 (bytesE (putL [] l.length 2 ++ (l.take j).flatMap colE)) none (.own (.slot 3)))], h, []⟩) (fun j => j ≤ l.length) (fun j => l.length - j) 0 (by simp) ?_ ?_
  · simp [Leq, hh]
  · intro j hj
    by_cases hlt : j < l.length
    · have hw : IntKind.i64.wrap ((j : Int) + 1) = (j : Int) + 1 := wrap64 (by omega) (by omega)
      obtain ⟨hx, hb⟩ := flat_step colE l (putL [] l.length 2).length j hlt 140737488351232 (by simpa [listL] using hl)
      have hc : colE l[j] = _ := colE_eq l[j]
      rw [hc] at hx hb
      simp only [List.length_append] at hb
      have hs := encT_len l[j].name
      simp [hlt, -List.append_assoc, -bytesE_append]
      generalize l[j] = c at *
      generalize hB : putL [] l.length 2 ++ (l.take j).flatMap colE = B at *
      have hBl : B.length = (putL [] l.length 2).length + ((l.take j).flatMap colE).length := by rw [← hB, List.length_append]
      refine xcall_of (rstr_c B c.name (by omega) _) (by simp) (by simp) ?_
      simp [-List.append_assoc, -bytesE_append]
      refine xcall_of (rput_c (B ++ He.encT c.name) c.table 4 (by simp only [List.length_append]; omega) _) (by simp) (by simp) ?_
      rw [put_app]
      simp [-List.append_assoc, -bytesE_append]
      refine xcall_of (rput_c (B ++ He.encT c.name ++ numE 4 c.table) c.attr 2 (by simp only [List.length_append]; omega) _) (by simp) (by simp) ?_
      rw [put_app]
      simp [-List.append_assoc, -bytesE_append]
      refine xcall_of (rput_c (B ++ He.encT c.name ++ numE 4 c.table ++ numE 2 c.attr) c.oid 4 (by simp only [List.length_append]; omega) _) (by simp) (by simp) ?_
      rw [put_app]
      simp [-List.append_assoc, -bytesE_append]
      refine xcall_of (rput_c (B ++ He.encT c.name ++ numE 4 c.table ++ numE 2 c.attr ++ numE 4 c.oid) c.size 2 (by simp only [List.length_append]; omega) _) (by simp) (by simp) ?_
      rw [put_app]
      simp [-List.append_assoc, -bytesE_append]
      refine xcall_of (rput_c (B ++ He.encT c.name ++ numE 4 c.table ++ numE 2 c.attr ++ numE 4 c.oid ++ numE 2 c.size) c.mod 4 (by simp only [List.length_append]; omega) _) (by simp) (by simp) ?_
      rw [put_app]
      simp [-List.append_assoc, -bytesE_append]
      refine xcall_of (rput_c (B ++ He.encT c.name ++ numE 4 c.table ++ numE 2 c.attr ++ numE 4 c.oid ++ numE 2 c.size ++ numE 4 c.mod) c.format 2 (by simp only [List.length_append]; omega) _) (by simp) (by simp) ?_
      rw [put_app]
      simp [hw, -List.append_assoc, -bytesE_append]
      refine ⟨j + 1, by omega, by omega, ?_⟩
      have e : putL [] l.length 2 ++ (l.take (j + 1)).flatMap colE = B ++ He.encT c.name ++ numE 4 c.table ++ numE 2 c.attr ++ numE 4 c.oid ++ numE 2 c.size ++ numE 4 c.mod ++ numE 2 c.format := by
        rw [hx, ← hB]; simp only [List.append_assoc]
      rw [e]
      simp [Leq, hh, -List.append_assoc, -bytesE_append]
    · have : j = l.length := by omega
      subst this
      simp [hh, listL]
theorem rbtold_c (l : List Fi) (hl : (fieldsE l).length ≤ 140737488351232) (hn : l.length ≤ 140737488355328) (hc : ∀ f ∈ l, 0 ≤ f.code ∧ f.code < 256) (h : List (List AV)) : Contract Tryz.prog 46 [.sl 2 (enc fiC l) none .no] h (.sl 1 (bytesE (fieldsE l)) none (.own .res)) h [] := by
  refine contract_of k46 mixed (by simp [c46]) fun hh hargs => ?_
  unfold fieldsE at hl
  rw [List.length_append, List.length_singleton] at hl
  simp [c46]
  refine xloop_ok (D := Nat) (fun j => ⟨[(0, .sl 2 (enc fiC l) none .no), (4, .v (.int .i64 j))], [(3, .sl 1 (bytesE ((l.take j).flatMap fieldE)) none (.own (.slot 3)))], h, []⟩) (fun j => j ≤ l.length) (fun j => l.length - j) 0 (by simp) ?_ ?_
  · simp [Leq, hh]
  · intro j hj
    by_cases hlt : j < l.length
    · have hw : IntKind.i64.wrap ((j : Int) + 1) = (j : Int) + 1 := wrap64 (by omega) (by omega)
      obtain ⟨hx, hb⟩ := flat_step fieldE l 1 j hlt 140737488351232 (by omega)
      have hc1 := hc l[j] (List.getElem_mem _)
      have hc3 : max l[j].code 0 % 256 = l[j].code := by omega
      obtain ⟨cd, tx, hlj⟩ : ∃ cd tx, l[j] = ⟨cd, tx⟩ := ⟨_, _, rfl⟩
      rw [hlj] at hx hb hc1 hc3
      have hfe : fieldE ⟨cd, tx⟩ = [UInt8.ofNat cd.toNat] ++ He.encT tx := by simp [fieldE, textsL]
      rw [hfe] at hx hb
      rw [List.length_append, List.length_singleton, encT_len] at hb
      replace hc3 : max cd 0 % 256 = cd := hc3
      generalize hB : (l.take j).flatMap fieldE = B at *
      simp [hlt, hlj, fiC_mk, -List.append_assoc]
      refine ⟨by omega, ?_⟩
      refine xcall_of (rstr_c (B ++ [UInt8.ofNat cd.toNat]) tx (by simp only [List.length_append, List.length_singleton]; omega) _) (by simp [hc3]) (by simp) ?_
      simp [hw, -List.append_assoc]
      refine ⟨j + 1, by omega, by omega, ?_⟩
      have e : bytesE ((l.take (j + 1)).flatMap fieldE) = bytesE (B ++ [UInt8.ofNat cd.toNat]) ++ bytesE (He.encT tx) := by rw [hx, ← bytesE_append, List.append_assoc]
      rw [e]
      simp [Leq, hh, hc3, -List.append_assoc]
    · have : j = l.length := by omega
      subst this
      simp [hh, fieldsE, -List.length_flatMap]
      omega
set_option maxHeartbeats 4000000 in
theorem rbencode_c (m : Bk) (hf : BkFit m) (hs : BkShort m) (ho : BkOk m) (hb : (bodyB m).length ≤ 140737488351232) (h : List (List AV)) : Contract Tryz.prog 29 [.agg (bkC m)] h (.tup [.agg (msC (rencB m).1), .v (.int .i64 (rencB m).2)]) h [] := by
  have hf0 := hf
  obtain ⟨q1, q2, q3, q4, q5⟩ := hf
  obtain ⟨o1, o2, o3, o4⟩ := ho
  refine contract_of k29 mixed (by simp [c29]) fun hh hargs => ?_
  simp [c29]
  refine xcall_self (by simp) (rbcheck_c m hf0 hs _) ?_
  by_cases he : rcheckB m = 0
  · have e0 : rencB m = (⟨m.kind, bodyB m⟩, 0) := if_pos he
    rw [e0]
    unfold bodyB at hb ⊢
    by_cases h82 : m.kind = 82
    · simp [he, h82]
      refine xcall_of (rput_c [] 0 4 (by simp) _) (by simp) (by simp) ?_
      simp [hh, msC_mk, h82, numE]
    rw [if_neg h82] at hb ⊢
    by_cases h83 : m.kind = 83
    · rw [if_pos h83] at hb
      have e : textsL [m.name, m.value] = He.encT m.name ++ He.encT m.value := by simp [textsL]
      rw [e, List.length_append, encT_len, encT_len] at hb
      simp [he, h83, -List.append_assoc]
      refine xcall_of (rstr_c [] m.name (by simp; omega) _) (by simp) (by simp) ?_
      simp
      refine xcall_of (rstr_c (He.encT m.name) m.value (by rw [encT_len]; omega) _) (by simp) (by simp) ?_
      simp [hh, msC_mk, h83, e]
    rw [if_neg h83] at hb ⊢
    by_cases h75 : m.kind = 75
    · have l1 := numE_len 4 m.n (by omega)
      simp [he, h75, -List.append_assoc]
      refine xcall_of (rput_c [] m.n 4 (by simp) _) (by simp) (by simp) ?_
      simp
      refine xcall_of (rput_c (numE 4 m.n) m.m 4 (by omega) _) (by simp [numE]) (by simp) ?_
      simp [hh, msC_mk, h75, put_app (numE 4 m.n) m.m 4]
    rw [if_neg h75] at hb ⊢
    by_cases h90 : m.kind = 90
    · have hw : max m.status 0 % 256 = m.status := by omega
      simp [he, h90, hh, hw, msC_mk]
    rw [if_neg h90] at hb ⊢
    by_cases h67 : m.kind = 67
    · rw [if_pos h67] at hb
      have e : textsL [m.tag] = He.encT m.tag := by simp [textsL]
      rw [e, encT_len] at hb
      simp [he, h67]
      refine xcall_of (rstr_c [] m.tag (by simp; omega) _) (by simp) (by simp) ?_
      simp [hh, msC_mk, h67, e]
    rw [if_neg h67] at hb ⊢
    by_cases h68 : m.kind = 68
    · rw [if_pos h68] at hb
      simp [he, h68]
      refine xcall_of (rputc_c [] m.row (by simpa using hb) q3 _) (by simp) (by simp) ?_
      simp [hh, msC_mk, h68]
    rw [if_neg h68] at hb ⊢
    by_cases h84 : m.kind = 84
    · rw [if_pos h84] at hb
      simp [he, h84]
      refine xcall_self (by simp) (rbdescribed_c m.cols hb q2 _) ?_
      simp [hh, msC_mk, h84]
    rw [if_neg h84] at hb ⊢
    by_cases h116 : m.kind = 116
    · rw [if_pos h116] at hb
      simp [he, h116]
      refine xcall_of (rlist_c [] m.oids 4 (by simpa using hb) q1 _) (by simp) (by simp) ?_
      simp [hh, msC_mk, h116]
    rw [if_neg h116] at hb ⊢
    by_cases h69 : m.kind = 69 ∨ m.kind = 78
    · rw [if_pos h69] at hb
      rcases h69 with h69 | h69
      all_goals
        simp [he, h69]
        refine xcall_self (by simp) (rbtold_c m.fields hb q4 o4 _) ?_
        simp [hh, msC_mk, h69]
    have h69' : ¬ m.kind = 69 := fun h => h69 (.inl h)
    have h78' : ¬ m.kind = 78 := fun h => h69 (.inr h)
    rw [if_neg h69]
    simp [he, h82, h83, h75, h90, h67, h68, h84, h116, h69', h78', hh, msC_mk]
  · simp [he, hh, rencB, msC_mk]

end Go.Proofs.YtofkddajlgebjaaGreat.Ax
namespace Go.Proofs.YtofkddajlgebjaaGreat.Ax
open Go.RowKit Go By YtofkddajlgebjaaGreat.Nm Sc Dg
open He (textL)
set_option linter.unusedSimpArgs false
set_option linter.unusedVariables false
set_option maxRecDepth 10000

/-! ### Messages' bytes -/
def mk3 (k : UInt8) (E X : List UInt8) : List UInt8 := [k] ++ E ++ X
theorem mk3_bytes (k : UInt8) (E X : List UInt8) : bytesE (mk3 k E X) = bytesE ([k] ++ E) ++ bytesE X := bytesE_append _ _
theorem mk3_cons (k : UInt8) (E X : List UInt8) : mk3 k E X = k :: (E ++ X) := by simp [mk3]
def msgE (m : Ms) : List UInt8 := mk3 (UInt8.ofNat m.type.toNat) (numE 4 ((m.body.length : Int) + 4)) m.body
theorem msgE_eq (m : Ms) : msgE m = mk3 (UInt8.ofNat m.type.toNat) (numE 4 ((m.body.length : Int) + 4)) m.body := by unfold msgE; exact Eq.refl _
theorem r4bytes_c (m : Ms) (ht : 0 < m.type ∧ m.type < 256) (hl : m.body.length ≤ 10000000) (h : List (List AV)) : Contract Tryz.prog 30 [.agg (msC m)] h (.sl 1 (bytesE (msgE m)) none (.own .res)) h [] := by
  have hw : IntKind.i64.wrap ((m.body.length : Int) + 4) = (m.body.length : Int) + 4 := wrap64 (by omega) (by omega)
  have hn := numE_len 4 ((m.body.length : Int) + 4) (by omega)
  have hk : max m.type 0 % 256 = m.type := by omega
  have h0 : ¬ m.type = 0 := by omega
  refine contract_of k30 mixed (by simp [c30]) fun hh hargs => ?_
  rw [msgE_eq, mk3_bytes]
  generalize hn' : (m.body.length : Int) + 4 = n at *
  generalize hE : bytesE ([UInt8.ofNat m.type.toNat] ++ numE 4 n) = E at *
  have hEl : E.length = 1 + (numE 4 n).length := by rw [← hE, bytesE_length, List.length_append, List.length_singleton]
  simp [c30, h0, hn', hw]
  refine xappendA_own ?_
  simp [hn', hw]
  refine xcall_of (rput_c [UInt8.ofNat m.type.toNat] n 4 (by simp) _) (by simp [hk]) (by simp) ?_
  rw [put_app [UInt8.ofNat m.type.toNat], hE]
  simp [hh, -List.append_assoc]
  exact ⟨by omega, by rw [← hE]; exact ltLL_bytes _ _⟩
theorem msgE_one {m : Bk} (he : checkB m = 0) : msgE ⟨m.kind, bodyB m⟩ = oneB m := by
  rw [oneB_ok he, msgE_eq, mk3_cons]
theorem kind_pos {k : Int} (h : kindB k = true) : 0 < k ∧ k < 256 := by
  unfold kindB at h
  have := of_decide_eq_true h
  omega
theorem rbbytes_c (l : List Bk) (hf : ∀ m ∈ l, BkFit m ∧ BkShort m ∧ BkOk m ∧ (bodyB m).length ≤ 10000000) (hl : (bytesB l).length ≤ 100000000) (hn : l.length ≤ 1000) (h : List (List AV)) : Contract Tryz.prog 20 [.sl 11 (enc bkC l) none .no] h (.sl 1 (bytesE (bytesB l)) none (.own .res)) h [] := by
  refine contract_of k20 mixed (by simp [c20]) fun hh hargs => ?_
  simp [c20]
  refine xloop_ok (D := Nat) (fun j => ⟨[(0, .sl 11 (enc bkC l) none .no), (4, .v (.int .i64 j))], [(3, .sl 1 (bytesE (bytesB (l.take j))) none (.own (.slot 3)))], h, []⟩) (fun j => j ≤ l.length) (fun j => l.length - j) 0 (by simp) ?_ ?_
  · simp [Leq, hh, bytesB]
  · intro j hj
    by_cases hlt : j < l.length
    · have hw : IntKind.i64.wrap ((j : Int) + 1) = (j : Int) + 1 := wrap64 (by omega) (by omega)
      obtain ⟨hx, hb⟩ := bb_step l (M := 100000000) hl j hlt
      obtain ⟨f1, f2, f3, f4⟩ := hf l[j] (List.getElem_mem _)
      simp [hlt]
      generalize l[j] = m at *
      refine xcall_self (by simp) (rbencode_c m f1 f2 f3 (by omega) _) ?_
      rw [← enc_eqB]
      by_cases he : checkB m = 0
      · rw [encB_ok he]
        have e1 := msgE_one he
        rw [← e1] at hx hb
        simp
        refine xcall_self (by simp) (r4bytes_c ⟨m.kind, bodyB m⟩ (kind_pos (checkB_kind he)) f4 _) ?_
        generalize msgE ⟨m.kind, bodyB m⟩ = X at *
        have hb2 : (bytesB (l.take j)).length + X.length ≤ 140737488355328 := by omega
        simp [hw, hb2, -List.append_assoc]
        refine ⟨j + 1, by omega, by omega, ?_⟩
        simp [Leq, hh, hx]
      · have e2 := oneB_no he
        rw [e2, List.append_nil] at hx
        rw [encB_no he]
        simp [he, hw]
        refine ⟨j + 1, by omega, by omega, ?_⟩
        simp [Leq, hh, hx]
    · have : j = l.length := by omega
      subst this
      simp [hh]
end Go.Proofs.YtofkddajlgebjaaGreat.Ax
