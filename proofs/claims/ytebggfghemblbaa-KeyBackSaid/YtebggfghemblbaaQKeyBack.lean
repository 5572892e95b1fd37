/- KeyBack: layer 12's law of keys there and back, for all arguments. -/
import Derived.Test.YtebggfghemblbaaQAxWo
import Derived.Test.YtebggfghemblbaaQAxXr
import Derived.Test.YtebggfghemblbaaRows
import Derived.Test.YtebggfghemblbaaQAxKg
import Derived.Test.YtebggfghemblbaaQElems
import Derived.WalkKit
import Derived.ProofKit
import Derived.OpenShut
import Derived.ShutString
import Derived.ChangeOld
import Derived.Below
/- What reads as data of the types of package api is laid out as their structures are. Written by gen/ax_types.py. -/
namespace Go.Proofs.Ytebggfghemblbaa.Ax
open Go.RowKit Go By
set_option linter.unusedSimpArgs false
set_option linter.unusedVariables false

theorem i64_wf {n : Int} (h : (Lit.int .i64 n).wf = true) : -9223372036854775808 ≤ n ∧ n ≤ 9223372036854775807 := by
  simp [Lit.wf, IntKind.min, IntKind.max, IntKind.signed, IntKind.bits] at h
  omega
theorem sh_int : Shape Try.prog 3 (fun n : Int => [.v (.int .i64 n)]) (fun n => -9223372036854775808 ≤ n ∧ n ≤ 9223372036854775807) := Shape.map (shape_int Try.underlying3) id (fun _ => rfl) (fun _ => i64_wf)
theorem sh_u8 : Shape Try.prog 5 (fun n : Int => [.v (.int .u8 n)]) (fun n => 0 ≤ n ∧ n < 256) := Shape.map (shape_int Try.underlying5) id (fun _ => rfl) (fun _ => u8_of_wf)
theorem sh_bool : Shape Try.prog 4 (fun b : Bool => [.v (.bool b)]) (fun _ => True) := shape_bool Try.underlying4
theorem sh_str : Shape Try.prog 9 strC (fun s => s.length ≤ maxLen) := shape_str Try.underlying9
theorem sh_bytes : Shape Try.prog 41 (fun l : List UInt8 => [.sl 1 (bytesE l) none .no]) (fun l => l.length ≤ maxLen) := shape_bytes Try.underlying41 (by kernel_rfl) Try.underlying5
theorem sh_ints : Shape Try.prog 29 (fun l : List Int => [.sl 1 (enc intC l) none .no]) (fun l => l.length ≤ maxLen) := Shape.map (shape_slice Try.underlying29 (by kernel_rfl) (by decide) sh_int (fun _ => rfl)) id (fun _ => rfl) (fun _ h => h.1)
def OkCl (x : Cl) : Prop := True ∧ x.2.length ≤ maxLen
theorem sh_cellC : Shape Try.prog 43 cellC OkCl :=
  Shape.map (shape_struct Try.underlying43 (by kernel_rfl) (shape_cons (k := 1) rfl (by kernel_rfl) sh_bool (by kernel_rfl) (shape_one (k := 1) rfl (by kernel_rfl) sh_bytes))) (fun p => (p.1, p.2)) (fun _ => rfl) (fun _ h => h)
theorem sh_cellCL : Shape Try.prog 22 (fun l : List Cl => [.sl 2 (enc cellC l) none .no]) (fun l => l.length ≤ maxLen ∧ ∀ x ∈ l, OkCl x) := shape_slice Try.underlying22 (by kernel_rfl) (by decide) sh_cellC (fun _ => rfl)
def OkMs (x : Ms) : Prop := (0 ≤ x.type ∧ x.type < 256) ∧ x.body.length ≤ maxLen
theorem sh_msC : Shape Try.prog 84 msC OkMs :=
  Shape.map (shape_struct Try.underlying84 (by kernel_rfl) (shape_cons (k := 1) rfl (by kernel_rfl) sh_u8 (by kernel_rfl) (shape_one (k := 1) rfl (by kernel_rfl) sh_bytes))) (fun p => ⟨p.1, p.2⟩) (fun _ => rfl) (fun _ h => h)
def OkPa (x : Pa) : Prop := x.name.length ≤ maxLen ∧ x.value.length ≤ maxLen
theorem sh_paC : Shape Try.prog 81 paC OkPa :=
  Shape.map (shape_struct Try.underlying81 (by kernel_rfl) (shape_cons (k := 1) rfl (by kernel_rfl) sh_str (by kernel_rfl) (shape_one (k := 1) rfl (by kernel_rfl) sh_str))) (fun p => ⟨p.1, p.2⟩) (fun _ => rfl) (fun _ h => h)
theorem sh_paCL : Shape Try.prog 45 (fun l : List Pa => [.sl 2 (enc paC l) none .no]) (fun l => l.length ≤ maxLen ∧ ∀ x ∈ l, OkPa x) := shape_slice Try.underlying45 (by kernel_rfl) (by decide) sh_paC (fun _ => rfl)
def OkCo (x : Co) : Prop := x.name.length ≤ maxLen ∧ (-9223372036854775808 ≤ x.table ∧ x.table ≤ 9223372036854775807) ∧ (-9223372036854775808 ≤ x.attr ∧ x.attr ≤ 9223372036854775807) ∧ (-9223372036854775808 ≤ x.oid ∧ x.oid ≤ 9223372036854775807) ∧ (-9223372036854775808 ≤ x.size ∧ x.size ≤ 9223372036854775807) ∧ (-9223372036854775808 ≤ x.mod ∧ x.mod ≤ 9223372036854775807) ∧ (-9223372036854775808 ≤ x.format ∧ x.format ≤ 9223372036854775807)
theorem sh_coC : Shape Try.prog 67 coC OkCo :=
  Shape.map (shape_struct Try.underlying67 (by kernel_rfl) (shape_cons (k := 1) rfl (by kernel_rfl) sh_str (by kernel_rfl) (shape_cons (k := 1) rfl (by kernel_rfl) sh_int (by kernel_rfl) (shape_cons (k := 1) rfl (by kernel_rfl) sh_int (by kernel_rfl) (shape_cons (k := 1) rfl (by kernel_rfl) sh_int (by kernel_rfl) (shape_cons (k := 1) rfl (by kernel_rfl) sh_int (by kernel_rfl) (shape_cons (k := 1) rfl (by kernel_rfl) sh_int (by kernel_rfl) (shape_one (k := 1) rfl (by kernel_rfl) sh_int)))))))) (fun p => ⟨p.1, p.2.1, p.2.2.1, p.2.2.2.1, p.2.2.2.2.1, p.2.2.2.2.2.1, p.2.2.2.2.2.2⟩) (fun _ => rfl) (fun _ h => h)
theorem sh_coCL : Shape Try.prog 27 (fun l : List Co => [.sl 7 (enc coC l) none .no]) (fun l => l.length ≤ maxLen ∧ ∀ x ∈ l, OkCo x) := shape_slice Try.underlying27 (by kernel_rfl) (by decide) sh_coC (fun _ => rfl)
def OkFi (x : Fi) : Prop := (0 ≤ x.code ∧ x.code < 256) ∧ x.text.length ≤ maxLen
theorem sh_fiC : Shape Try.prog 70 fiC OkFi :=
  Shape.map (shape_struct Try.underlying70 (by kernel_rfl) (shape_cons (k := 1) rfl (by kernel_rfl) sh_u8 (by kernel_rfl) (shape_one (k := 1) rfl (by kernel_rfl) sh_str))) (fun p => ⟨p.1, p.2⟩) (fun _ => rfl) (fun _ h => h)
theorem sh_fiCL : Shape Try.prog 30 (fun l : List Fi => [.sl 2 (enc fiC l) none .no]) (fun l => l.length ≤ maxLen ∧ ∀ x ∈ l, OkFi x) := shape_slice Try.underlying30 (by kernel_rfl) (by decide) sh_fiC (fun _ => rfl)
def OkSm (x : Sm) : Prop := x.text.length ≤ maxLen ∧ x.oids.length ≤ maxLen
theorem sh_smC : Shape Try.prog 56 smC OkSm :=
  Shape.map (shape_struct Try.underlying56 (by kernel_rfl) (shape_cons (k := 1) rfl (by kernel_rfl) sh_str (by kernel_rfl) (shape_one (k := 1) rfl (by kernel_rfl) sh_ints))) (fun p => ⟨p.1, p.2⟩) (fun _ => rfl) (fun _ h => h)
def OkHm (x : Hm) : Prop := (-9223372036854775808 ≤ x.code ∧ x.code ≤ 9223372036854775807) ∧ (-9223372036854775808 ≤ x.process ∧ x.process ≤ 9223372036854775807) ∧ (-9223372036854775808 ≤ x.secret ∧ x.secret ≤ 9223372036854775807) ∧ (x.params.length ≤ maxLen ∧ ∀ c ∈ x.params, OkPa c)
def OkFm (x : Fm) : Prop := (0 ≤ x.kind ∧ x.kind < 256) ∧ (0 ≤ x.what ∧ x.what < 256) ∧ x.name.length ≤ maxLen ∧ x.portal.length ≤ maxLen ∧ x.text.length ≤ maxLen ∧ x.oids.length ≤ maxLen ∧ x.formats.length ≤ maxLen ∧ x.results.length ≤ maxLen ∧ (x.params.length ≤ maxLen ∧ ∀ c ∈ x.params, OkCl c) ∧ (-9223372036854775808 ≤ x.max ∧ x.max ≤ 9223372036854775807)
def OkBk (x : Bk) : Prop := (0 ≤ x.kind ∧ x.kind < 256) ∧ (0 ≤ x.status ∧ x.status < 256) ∧ x.tag.length ≤ maxLen ∧ x.name.length ≤ maxLen ∧ x.value.length ≤ maxLen ∧ (-9223372036854775808 ≤ x.n ∧ x.n ≤ 9223372036854775807) ∧ (-9223372036854775808 ≤ x.m ∧ x.m ≤ 9223372036854775807) ∧ x.oids.length ≤ maxLen ∧ (x.cols.length ≤ maxLen ∧ ∀ c ∈ x.cols, OkCo c) ∧ (x.row.length ≤ maxLen ∧ ∀ c ∈ x.row, OkCl c) ∧ (x.fields.length ≤ maxLen ∧ ∀ c ∈ x.fields, OkFi c)
theorem sh_bkC : Shape Try.prog 32 bkC OkBk :=
  Shape.map (shape_struct Try.underlying32 (by kernel_rfl) (shape_cons (k := 1) rfl (by kernel_rfl) sh_u8 (by kernel_rfl) (shape_cons (k := 1) rfl (by kernel_rfl) sh_u8 (by kernel_rfl) (shape_cons (k := 1) rfl (by kernel_rfl) sh_str (by kernel_rfl) (shape_cons (k := 1) rfl (by kernel_rfl) sh_str (by kernel_rfl) (shape_cons (k := 1) rfl (by kernel_rfl) sh_str (by kernel_rfl) (shape_cons (k := 1) rfl (by kernel_rfl) sh_int (by kernel_rfl) (shape_cons (k := 1) rfl (by kernel_rfl) sh_int (by kernel_rfl) (shape_cons (k := 1) rfl (by kernel_rfl) sh_ints (by kernel_rfl) (shape_cons (k := 1) rfl (by kernel_rfl) sh_coCL (by kernel_rfl) (shape_cons (k := 1) rfl (by kernel_rfl) sh_cellCL (by kernel_rfl) (shape_one (k := 1) rfl (by kernel_rfl) sh_fiCL)))))))))))) (fun p => ⟨p.1, p.2.1, p.2.2.1, p.2.2.2.1, p.2.2.2.2.1, p.2.2.2.2.2.1, p.2.2.2.2.2.2.1, p.2.2.2.2.2.2.2.1, p.2.2.2.2.2.2.2.2.1, p.2.2.2.2.2.2.2.2.2.1, p.2.2.2.2.2.2.2.2.2.2⟩) (fun _ => rfl) (fun _ h => h)
theorem sh_bkCL : Shape Try.prog 47 (fun l : List Bk => [.sl 11 (enc bkC l) none .no]) (fun l => l.length ≤ maxLen ∧ ∀ x ∈ l, OkBk x) := shape_slice Try.underlying47 (by kernel_rfl) (by decide) sh_bkC (fun _ => rfl)
def OkTo (x : To) : Prop := True ∧ x.name.length ≤ maxLen ∧ (-9223372036854775808 ≤ x.id ∧ x.id ≤ 9223372036854775807)
def OkOc (x : Oc) : Prop := (-9223372036854775808 ≤ x.kind ∧ x.kind ≤ 9223372036854775807) ∧ (-9223372036854775808 ≤ x.id ∧ x.id ≤ 9223372036854775807)
def OkEn (x : En) : Prop := (-9223372036854775808 ≤ x.kind ∧ x.kind ≤ 9223372036854775807) ∧ True ∧ x.from_.length ≤ maxLen ∧ x.to.length ≤ maxLen ∧ (x.good.length ≤ maxLen ∧ ∀ c ∈ x.good, OkTo c) ∧ (x.bad.length ≤ maxLen ∧ ∀ c ∈ x.bad, OkTo c) ∧ (x.cache.length ≤ maxLen ∧ ∀ c ∈ x.cache, OkOc c) ∧ x.reply.length ≤ maxLen
def OkVb (x : Vb) : Prop := (-9223372036854775808 ≤ x.kind ∧ x.kind ≤ 9223372036854775807) ∧ (-9223372036854775808 ≤ x.n ∧ x.n ≤ 9223372036854775807) ∧ x.code.length ≤ maxLen
def OkCf (x : Cf) : Prop := (-9223372036854775808 ≤ x.servers ∧ x.servers ≤ 9223372036854775807) ∧ (-9223372036854775808 ≤ x.cache ∧ x.cache ≤ 9223372036854775807) ∧ (-9223372036854775808 ≤ x.table ∧ x.table ≤ 9223372036854775807) ∧ (-9223372036854775808 ≤ x.message ∧ x.message ≤ 9223372036854775807) ∧ (-9223372036854775808 ≤ x.buffer ∧ x.buffer ≤ 9223372036854775807) ∧ (-9223372036854775808 ≤ x.queue ∧ x.queue ≤ 9223372036854775807) ∧ (x.params.length ≤ maxLen ∧ ∀ c ∈ x.params, OkPa c)
def OkEv (x : Ev) : Prop := (-9223372036854775808 ≤ x.kind ∧ x.kind ≤ 9223372036854775807) ∧ (-9223372036854775808 ≤ x.who ∧ x.who ≤ 9223372036854775807) ∧ (-9223372036854775808 ≤ x.n ∧ x.n ≤ 9223372036854775807) ∧ x.bytes.length ≤ maxLen
def OkSe (x : Se) : Prop := (-9223372036854775808 ≤ x.client ∧ x.client ≤ 9223372036854775807) ∧ (-9223372036854775808 ≤ x.index ∧ x.index ≤ 9223372036854775807) ∧ x.bytes.length ≤ maxLen
def OkCa (x : Ca) : Prop := (-9223372036854775808 ≤ x.client ∧ x.client ≤ 9223372036854775807) ∧ (-9223372036854775808 ≤ x.index ∧ x.index ≤ 9223372036854775807)
def OkNa (x : Na) : Prop := x.name.length ≤ maxLen ∧ (-9223372036854775808 ≤ x.id ∧ x.id ≤ 9223372036854775807)
def OkCn (x : Cn) : Prop := (-9223372036854775808 ≤ x.id ∧ x.id ≤ 9223372036854775807) ∧ (-9223372036854775808 ≤ x.refs ∧ x.refs ≤ 9223372036854775807)
def OkCv (x : Cv) : Prop := (-9223372036854775808 ≤ x.phase ∧ x.phase ≤ 9223372036854775807) ∧ (-9223372036854775808 ≤ x.server ∧ x.server ≤ 9223372036854775807) ∧ (-9223372036854775808 ≤ x.done ∧ x.done ≤ 9223372036854775807) ∧ (x.table.length ≤ maxLen ∧ ∀ c ∈ x.table, OkNa c)
def OkSv (x : Sv) : Prop := (-9223372036854775808 ≤ x.state ∧ x.state ≤ 9223372036854775807) ∧ (-9223372036854775808 ≤ x.holder ∧ x.holder ≤ 9223372036854775807) ∧ (-9223372036854775808 ≤ x.queue ∧ x.queue ≤ 9223372036854775807) ∧ (0 ≤ x.status ∧ x.status < 256) ∧ x.cache.length ≤ maxLen ∧ x.pending.length ≤ maxLen
def OkVw (x : Vw) : Prop := (x.clients.length ≤ maxLen ∧ ∀ c ∈ x.clients, OkCv c) ∧ (x.servers.length ≤ maxLen ∧ ∀ c ∈ x.servers, OkSv c) ∧ (x.registry.length ≤ maxLen ∧ ∀ c ∈ x.registry, OkCn c) ∧ x.waiting.length ≤ maxLen
end Go.Proofs.Ytebggfghemblbaa.Ax
/- Statements as keys, over values without memory: the laws. -/
namespace Go.Proofs.Ytebggfghemblbaa.Ax
open Go.RowKit Go By Nm Sc Dg
set_option linter.unusedSimpArgs false
set_option linter.unusedVariables false
set_option maxRecDepth 10000

def sameK (a b : Sm) : Bool := a.text == b.text && a.oids == b.oids
theorem sameK_eq (a b : Sm) : sameK a b = decide (a = b) := by
  obtain ⟨a1, a2⟩ := a
  obtain ⟨b1, b2⟩ := b
  rw [Bool.eq_iff_iff]
  simp [sameK]
theorem sameK_refl (a : Sm) : sameK a a = true := by rw [sameK_eq]; simp
theorem ksame_c (a b : Sm) (hl : a.oids.length ≤ 140737488355328) (h : List (List AV)) : Contract Try.prog 39 [.agg (smC a), .agg (smC b)] h (.v (.bool (sameK a b))) h [] := by
  refine contract_of k39 mixed (by simp [c39]) fun hh hargs => ?_
  cases ht : a.text == b.text with
  | false => simp [c39, ht, hh, sameK]
  | true =>
    simp [c39, ht]
    refine xcall_self (by simp) (sliceseq_c _ _ hl _) ?_
    simp [hh, sameK, ht]
theorem krsame_c (a b : Sm) (hl : a.oids.length ≤ 140737488355328) (h : List (List AV)) : Contract Try.prog 40 [.agg (smC a), .agg (smC b)] h (.v (.bool (sameK a b))) h [] := by
  refine contract_of k40 mixed (by simp [c40]) fun hh hargs => ?_
  cases ht : a.text == b.text with
  | false => simp [c40, ht, hh, sameK]
  | true =>
    simp [c40, ht]
    refine xcall_self (by simp) (rints_c _ _ hl _) ?_
    simp [hh, sameK, ht]
def fewK (m : Sm) : Bool := decide ((m.text.length : Int) ≤ 1000) && decide ((m.oids.length : Int) ≤ 50)
theorem few_c (m : Sm) (h : List (List AV)) : Contract Try.prog 33 [.agg (smC m)] h (.v (.bool (fewK m))) h [] := by
  refine contract_of k33 mixed (by simp [c33]) fun hh hargs => ?_
  by_cases ht : (m.text.length : Int) ≤ 1000
  · simp [c33, ht, hh, fewK]
  · simp [c33, ht, hh, fewK]
theorem few_yes {m : Sm} (h : fewK m = true) : m.text.length ≤ 1000 ∧ m.oids.length ≤ 50 := by
  unfold fewK at h
  simp at h
  omega
/-! ### A key's statement -/
theorem keyB_len {m : Sm} (h : fewK m = true) : (keyB m).length ≤ 1300 := by
  obtain ⟨h1, h2⟩ := few_yes h
  unfold keyB
  split
  · unfold keyBytes
    have h3 := numE_le (m.text.length : Int)
    have h4 := numsL_le m.oids
    rw [List.length_append, List.length_append]; omega
  · simp
theorem key_split {m : Sm} (h : keyable m = true) : splitOk (keyB m) = true ∧ splitK (keyB m) = m := by
  have hk : keyB m = numE 4 m.text.length ++ (m.text ++ numsL m.oids) := by unfold keyB; rw [if_pos h]; unfold keyBytes; rw [List.append_assoc]
  unfold keyable okList at h
  simp only [Bool.and_eq_true, decide_eq_true_eq] at h
  obtain ⟨h1, h2, h3⟩ := h
  have ho : okT (m.text.length : Int) = true := (okT_iff _).2 (by omega)
  have h4 := numE_four ho
  have ha : ∀ n ∈ m.oids, okT n = true := fun n hn => List.all_eq_true.1 h3 n hn
  have h5 := numsL_len ha
  have hL : lenK (keyB m) = m.text.length := by
    unfold lenK
    rw [hk, getI_pre _ _ _ _ (by omega), numE_back ho]; simp
  have hd : (keyB m).drop 4 = m.text ++ numsL m.oids := by rw [hk, show 4 = (numE 4 (m.text.length : Int)).length from h4.symm, List.drop_left]
  have ht : textK (keyB m) = m.text := by unfold textK; rw [hL, hd, List.take_left]
  have hr : restK (keyB m) = numsL m.oids := by unfold restK; rw [hL, ← List.drop_drop, hd, List.drop_left]
  have hlen : (keyB m).length = 4 + (m.text.length + (numsL m.oids).length) := by rw [hk, List.length_append, List.length_append, h4]
  have hs : splitOk (keyB m) = true := by
    unfold splitOk
    rw [hL, hr, Bool.and_eq_true, decide_eq_true_eq, beq_iff_eq]
    omega
  refine ⟨hs, ?_⟩
  unfold splitK
  rw [if_pos hs, ht, hr, show (numsL m.oids).length / 4 = m.oids.length by omega, numsOf_numsL ha]
theorem keyB_none {m : Sm} (h : keyable m = false) : keyB m = [] := by unfold keyB; rw [h]; rfl
theorem keyB_some {m : Sm} (h : keyable m = true) : keyB m ≠ [] := fun e => by
  have hk : keyB m = keyBytes m := by unfold keyB; rw [if_pos h]
  rw [hk] at e
  unfold keyBytes at e
  unfold keyable at h
  simp only [Bool.and_eq_true, decide_eq_true_eq] at h
  have h4 := numE_four (n := m.text.length) ((okT_iff _).2 (by omega))
  rw [List.append_eq_nil_iff, List.append_eq_nil_iff] at e
  rw [e.1.1] at h4
  cases h4
theorem keyB_inj {a b : Sm} (ha : keyable a = true) (hb : keyable b = true) : keyB a = keyB b ↔ a = b := by
  constructor
  · intro e
    have h1 := (key_split ha).2
    rw [e, (key_split hb).2] at h1
    exact h1.symm
  · rintro rfl; rfl
def awK : Sm := ⟨[97], [23]⟩
theorem awK_ok : keyable awK = true := by decide +kernel
theorem kawake_c (h : List (List AV)) : Contract Try.prog 34 [] h (.v (.bool true)) h [] := by
  obtain ⟨h1, h2⟩ := key_split awK_ok
  have hl := keyB_len (m := awK) (by decide +kernel)
  refine contract_of k34 mixed (by simp [c34]) fun hh hargs => ?_
  simp [c34]
  refine xcall_of (kof_c awK (by simp [awK]) _) (by simp [smC_mk, awK, intC]) (by simp) ?_
  generalize keyB awK = B at *
  simp
  refine xcall_self (by simp) (ksplit_c B (by omega) _) ?_
  rw [h1, h2]
  simp [smC_mk, awK, intC, hh]
theorem ktells_c (a b : Sm) (k : List UInt8) (ha : OkSm a) (hb : OkSm b) : Contract Try.prog 7 [.agg (smC a), .agg (smC b), .v (.string (strB k))] [] (.v (.bool true)) [] [] := by
  refine contract_of k7 mixed (by simp [c7]) fun hh hargs => ?_
  simp [c7]
  refine xcall_self (by simp) (few_c a _) ?_
  cases hf : fewK a with
  | false =>
    simp
    refine xcall_self (by simp) (kawake_c _) ?_
    simp
  | true =>
  simp
  refine xcall_self (by simp) (few_c b _) ?_
  cases hg : fewK b with
  | false =>
    simp
    refine xcall_self (by simp) (kawake_c _) ?_
    simp
  | true =>
  by_cases hk : (2000 : Int) < k.length
  · simp [hk]
    refine xcall_self (by simp) (kawake_c _) ?_
    simp
  obtain ⟨f1, f2⟩ := few_yes hf
  obtain ⟨f3, f4⟩ := few_yes hg
  simp [hk]
  refine xcall_self (by simp) (ksplit_c k (by omega) _) ?_
  simp
  refine xcall_self (by simp) (rsplit_c k (by omega) _) ?_
  simp
  refine xcall_self (by simp) (kof_c a (by omega) _) ?_
  simp
  refine xcall_self (by simp) (krof_c a (by omega) _) ?_
  simp
  refine xcall_self (by simp) (ksame_c a b (by omega) _) ?_
  simp
  refine xcall_self (by simp) (krsame_c a b (by omega) _) ?_
  simp
  have hl : (splitK k).oids.length ≤ 140737488355328 := by
    unfold splitK
    split
    · simp; unfold restK; simp; omega
    · simp
  refine xcall_self (by simp) (krsame_c (splitK k) (splitK k) hl _) ?_
  rw [sameK_refl]
  simp
  refine xcall_self (by simp) (kawake_c _) ?_
  simp
theorem kback_c (a b : Sm) (ha : OkSm a) (hb : OkSm b) : Contract Try.prog 8 [.agg (smC a), .agg (smC b)] [] (.v (.bool true)) [] [] := by
  refine contract_of k8 mixed (by simp [c8]) fun hh hargs => ?_
  simp [c8]
  refine xcall_self (by simp) (few_c a _) ?_
  cases hf : fewK a with
  | false =>
    simp
    refine xcall_self (by simp) (kawake_c _) ?_
    simp
  | true =>
  simp
  refine xcall_self (by simp) (few_c b _) ?_
  cases hg : fewK b with
  | false =>
    simp
    refine xcall_self (by simp) (kawake_c _) ?_
    simp
  | true =>
  obtain ⟨f1, f2⟩ := few_yes hf
  obtain ⟨f3, f4⟩ := few_yes hg
  simp
  refine xcall_self (by simp) (kof_c a (by omega) _) ?_
  cases hka : keyable a with
  | false =>
    rw [keyB_none hka]
    simp
    refine xcall_self (by simp) (kawake_c _) ?_
    simp
  | true =>
  have na : (keyB a == []) = false := by simpa using keyB_some hka
  simp [na]
  refine xcall_self (by simp) (kof_c b (by omega) _) ?_
  cases hkb : keyable b with
  | false =>
    rw [keyB_none hkb]
    simp
    refine xcall_self (by simp) (kawake_c _) ?_
    simp
  | true =>
  have nb : (keyB b == []) = false := by simpa using keyB_some hkb
  have hl := keyB_len hf
  obtain ⟨s1, s2⟩ := key_split hka
  have hi : (keyB a == keyB b) = sameK a b := by
    rw [sameK_eq, Bool.eq_iff_iff, beq_iff_eq, decide_eq_true_eq]; exact keyB_inj hka hkb
  simp [nb]
  refine xcall_self (by simp) (kof_c a (by omega) _) ?_
  simp
  refine xcall_self (by simp) (ksplit_c (keyB a) (by omega) _) ?_
  rw [s1, s2]
  simp
  refine xcall_self (by simp) (ksame_c a a (by omega) _) ?_
  rw [sameK_refl]
  simp
  refine xcall_self (by simp) (kof_c a (by omega) _) ?_
  simp
  refine xcall_self (by simp) (kof_c b (by omega) _) ?_
  simp [hi]
  refine xcall_self (by simp) (ksame_c a b (by omega) _) ?_
  simp
  refine xcall_self (by simp) (kawake_c _) ?_
  simp
end Go.Proofs.Ytebggfghemblbaa.Ax
namespace Go.Proofs.Ytebggfghemblbaa.keyBack
open Go.ChangeShapes Go.WideShapes Go.ChangeAt Go.RowKit
open Go.ChangeMaps (open_string shut_string)
set_option linter.unusedVariables false

theorem own : ownKnob Try.prog.godebug = none := by kernel_rfl
theorem laidOut : laidOutB Try.prog = true := by kernel_rfl

set_option maxRecDepth 100000 in
theorem lifted (os : Os) (started : os.Started) (H : Type) (enc : TypeId × Value → H) :
    ReturnsInHanded {} Try.checked os 8 .any (Rows.keyBackSpec.pre6 enc Try.prog Try.f8 Rows.keyBackRow.domain false) (Rows.keyBackSpec.post enc Try.prog Try.f8 false true false false) := by
  refine returnsInHanded_of_change (C := Try.checked) own started (by kernel_rfl) Try.func8
    (ChangeSpec.witness6 (enc := enc) (C := Try.checked) false ⟨#[], #[.agg #[.string ByteArray.empty, .slice none 0 0], .agg #[.string ByteArray.empty, .slice none 0 0]], []⟩ 8 (by kernel_rfl) (by kernel_rfl) (by kernel_rfl) (by kernel_rfl)) ?_
  intro W base args ds gs before hval0 hW hcnd _
  have hval : ∀ (j : Nat) t v, Try.f8.params[j]? = some t → args[j]? = some v → Value.okWide Try.prog W .any base t v := hval0
  have hW' := hW
  obtain ⟨p, q, hA0, hV, rfl, hfz, hnd⟩ := hW
  have hA : DataW.TrodAll enc Try.prog W 0 (fun _ => true) true Try.f8.params.toList args.toList ds p := hA0
  rw [Try.params8] at hA hval
  obtain ⟨v0, vs0, d0, ds0, p0, q0, hargs, rfl, rfl, h0, r0⟩ := trodAll_cons hA
  obtain ⟨v1, vs1, d1, ds1, p1, q1, rfl, rfl, rfl, h1, r1⟩ := trodAll_cons r0
  obtain ⟨rfl, rfl, rfl⟩ := trodAll_nil r1
  obtain rfl : args = #[v0, v1] := by cases args; simp_all
  obtain ⟨rfl, rfl⟩ := trodVars_none hV
  have k0 := h0
  have lt0 : ∀ x ∈ p0, x.block < W.heap.size := by obtain ⟨m, hm⟩ := k0; exact DataW.trod_lt m _ _ _ hm
  obtain ⟨a0, ok0, s0⟩ := Ax.arg_struct Try.underlying56 Ax.sh_smC (hval 0 56 v0 rfl rfl) h0
  have k1 := h1
  have lt1 : ∀ x ∈ p1, x.block < W.heap.size := by obtain ⟨m, hm⟩ := k1; exact DataW.trod_lt m _ _ _ hm
  obtain ⟨a1, ok1, s1⟩ := Ax.arg_struct Try.underlying56 Ax.sh_smC (hval 1 56 v1 rfl rfl) h1
  clear hA0 hval0
  refine (Ax.law_walk (w := W) (Ax.dom_any W) (Ax.kback_c a0 a1 ok0 ok1) (by simp) (.cons s0 (.cons s1 .nil))).mono fun e W' ⟨he, bel⟩ => ?_
  subst he
  exact ⟨_, rfl, _, _, _, [], _, [], hW', trodAll_mk1 (shut_bool Try.underlying4 _), (trodAll_cons_mk (Below.trod laidOut (by kernel_rfl) (of_decide_eq_true (by kernel_rfl)) k0 bel lt0) (trodAll_cons_mk (Below.trod laidOut (by kernel_rfl) (of_decide_eq_true (by kernel_rfl)) k1 bel lt1) trodAll_mk0)), rfl, bel.frame _, fun h => by cases h⟩

theorem over : Rows.keyBackRow.holds Try.pinned (OpenSpec.ofChange Rows.keyBackSpec) :=
  OpenClaim.holds_of_wide 8 Try.f8 rfl rfl rfl rfl rfl rfl rfl ⟨rfl, rfl, rfl, rfl, rfl⟩ rfl rfl rfl rfl rfl (by kernel_rfl) Try.func8 (by kernel_rfl)
    (of_decide_eq_true (by kernel_rfl)) (by unfold Func.isWrapper; first | (rw [if_pos (by decide +kernel)]; kernel_rfl) | (rw [if_neg (by decide +kernel)]; exact ⟨rfl, rfl⟩))
    (fun os started H enc _ => lifted os started H enc)

theorem proved : Rows.KeyBackSaid := over
#print axioms proved
end Go.Proofs.Ytebggfghemblbaa.keyBack
