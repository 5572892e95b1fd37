/- Statements as keys, over values without memory: the laws. -/
import Derived.Test.YtngkdlfgmpflnaaQAxWo
import Derived.Test.YtngkdlfgmpflnaaQAxXr
import Derived.Test.YtngkdlfgmpflnaaRows
import Derived.Test.YtngkdlfgmpflnaaQAxKg
/- What reads as data of the types of package api is laid out as their structures are. Written by gen/ax_types.py. -/
namespace Go.Proofs.Ytngkdlfgmpflnaa.Ax
open Go.RowKit Go By
set_option linter.unusedSimpArgs false
set_option linter.unusedVariables false

theorem i64_wf {n : Int} (h : (Lit.int .i64 n).wf = true) : -9223372036854775808 ≤ n ∧ n ≤ 9223372036854775807 := by
  simp [Lit.wf, IntKind.min, IntKind.max, IntKind.signed, IntKind.bits] at h
  omega
theorem sh_int : Shape Try.prog 3 (fun n : Int => [.v (.int .i64 n)]) (fun n => -9223372036854775808 ≤ n ∧ n ≤ 9223372036854775807) := Shape.map (shape_int Try.underlying3) id (fun _ => rfl) (fun _ => i64_wf)
theorem sh_u8 : Shape Try.prog 5 (fun n : Int => [.v (.int .u8 n)]) (fun n => 0 ≤ n ∧ n < 256) := Shape.map (shape_int Try.underlying5) id (fun _ => rfl) (fun _ => u8_of_wf)
theorem sh_bool : Shape Try.prog 4 (fun b : Bool => [.v (.bool b)]) (fun _ => True) := shape_bool Try.underlying4
theorem sh_str : Shape Try.prog 9 strC (fun s => s.length ≤ maxLen) := shape_str Try.underlying9
theorem sh_bytes : Shape Try.prog 78 (fun l : List UInt8 => [.sl 1 (bytesE l) none .no]) (fun l => l.length ≤ maxLen) := shape_bytes Try.underlying78 (by kernel_rfl) Try.underlying5
theorem sh_ints : Shape Try.prog 40 (fun l : List Int => [.sl 1 (enc intC l) none .no]) (fun l => l.length ≤ maxLen) := Shape.map (shape_slice Try.underlying40 (by kernel_rfl) (by decide) sh_int (fun _ => rfl)) id (fun _ => rfl) (fun _ h => h.1)
def OkCl (x : Cl) : Prop := True ∧ x.2.length ≤ maxLen
def OkMs (x : Ms) : Prop := (0 ≤ x.type ∧ x.type < 256) ∧ x.body.length ≤ maxLen
def OkPa (x : Pa) : Prop := x.name.length ≤ maxLen ∧ x.value.length ≤ maxLen
def OkCo (x : Co) : Prop := x.name.length ≤ maxLen ∧ (-9223372036854775808 ≤ x.table ∧ x.table ≤ 9223372036854775807) ∧ (-9223372036854775808 ≤ x.attr ∧ x.attr ≤ 9223372036854775807) ∧ (-9223372036854775808 ≤ x.oid ∧ x.oid ≤ 9223372036854775807) ∧ (-9223372036854775808 ≤ x.size ∧ x.size ≤ 9223372036854775807) ∧ (-9223372036854775808 ≤ x.mod ∧ x.mod ≤ 9223372036854775807) ∧ (-9223372036854775808 ≤ x.format ∧ x.format ≤ 9223372036854775807)
def OkFi (x : Fi) : Prop := (0 ≤ x.code ∧ x.code < 256) ∧ x.text.length ≤ maxLen
def OkSm (x : Sm) : Prop := x.text.length ≤ maxLen ∧ x.oids.length ≤ maxLen
theorem sh_smC : Shape Try.prog 42 smC OkSm :=
  Shape.map (shape_struct Try.underlying42 (by kernel_rfl) (shape_cons (k := 1) rfl (by kernel_rfl) sh_str (by kernel_rfl) (shape_one (k := 1) rfl (by kernel_rfl) sh_ints))) (fun p => ⟨p.1, p.2⟩) (fun _ => rfl) (fun _ h => h)
def OkHm (x : Hm) : Prop := (-9223372036854775808 ≤ x.code ∧ x.code ≤ 9223372036854775807) ∧ (-9223372036854775808 ≤ x.process ∧ x.process ≤ 9223372036854775807) ∧ (-9223372036854775808 ≤ x.secret ∧ x.secret ≤ 9223372036854775807) ∧ (x.params.length ≤ maxLen ∧ ∀ c ∈ x.params, OkPa c)
def OkFm (x : Fm) : Prop := (0 ≤ x.kind ∧ x.kind < 256) ∧ (0 ≤ x.what ∧ x.what < 256) ∧ x.name.length ≤ maxLen ∧ x.portal.length ≤ maxLen ∧ x.text.length ≤ maxLen ∧ x.oids.length ≤ maxLen ∧ x.formats.length ≤ maxLen ∧ x.results.length ≤ maxLen ∧ (x.params.length ≤ maxLen ∧ ∀ c ∈ x.params, OkCl c) ∧ (-9223372036854775808 ≤ x.max ∧ x.max ≤ 9223372036854775807)
def OkBk (x : Bk) : Prop := (0 ≤ x.kind ∧ x.kind < 256) ∧ (0 ≤ x.status ∧ x.status < 256) ∧ x.tag.length ≤ maxLen ∧ x.name.length ≤ maxLen ∧ x.value.length ≤ maxLen ∧ (-9223372036854775808 ≤ x.n ∧ x.n ≤ 9223372036854775807) ∧ (-9223372036854775808 ≤ x.m ∧ x.m ≤ 9223372036854775807) ∧ x.oids.length ≤ maxLen ∧ (x.cols.length ≤ maxLen ∧ ∀ c ∈ x.cols, OkCo c) ∧ (x.row.length ≤ maxLen ∧ ∀ c ∈ x.row, OkCl c) ∧ (x.fields.length ≤ maxLen ∧ ∀ c ∈ x.fields, OkFi c)
def OkTo (x : To) : Prop := True ∧ x.name.length ≤ maxLen ∧ (-9223372036854775808 ≤ x.id ∧ x.id ≤ 9223372036854775807)
def OkOc (x : Oc) : Prop := (-9223372036854775808 ≤ x.kind ∧ x.kind ≤ 9223372036854775807) ∧ (-9223372036854775808 ≤ x.id ∧ x.id ≤ 9223372036854775807)
def OkEn (x : En) : Prop := (-9223372036854775808 ≤ x.kind ∧ x.kind ≤ 9223372036854775807) ∧ True ∧ x.from_.length ≤ maxLen ∧ x.to.length ≤ maxLen ∧ (x.good.length ≤ maxLen ∧ ∀ c ∈ x.good, OkTo c) ∧ (x.bad.length ≤ maxLen ∧ ∀ c ∈ x.bad, OkTo c) ∧ (x.cache.length ≤ maxLen ∧ ∀ c ∈ x.cache, OkOc c) ∧ x.reply.length ≤ maxLen
def OkVb (x : Vb) : Prop := (-9223372036854775808 ≤ x.kind ∧ x.kind ≤ 9223372036854775807) ∧ (-9223372036854775808 ≤ x.n ∧ x.n ≤ 9223372036854775807) ∧ x.code.length ≤ maxLen
def OkCf (x : Cf) : Prop := (-9223372036854775808 ≤ x.servers ∧ x.servers ≤ 9223372036854775807) ∧ (-9223372036854775808 ≤ x.cache ∧ x.cache ≤ 9223372036854775807) ∧ (-9223372036854775808 ≤ x.table ∧ x.table ≤ 9223372036854775807) ∧ (-9223372036854775808 ≤ x.message ∧ x.message ≤ 9223372036854775807) ∧ (-9223372036854775808 ≤ x.buffer ∧ x.buffer ≤ 9223372036854775807) ∧ (-9223372036854775808 ≤ x.queue ∧ x.queue ≤ 9223372036854775807) ∧ (x.params.length ≤ maxLen ∧ ∀ c ∈ x.params, OkPa c)
def OkEv (x : Ev) : Prop := (-9223372036854775808 ≤ x.kind ∧ x.kind ≤ 9223372036854775807) ∧ (-9223372036854775808 ≤ x.who ∧ x.who ≤ 9223372036854775807) ∧ (-9223372036854775808 ≤ x.n ∧ x.n ≤ 9223372036854775807) ∧ x.bytes.length ≤ maxLen
def OkSe (x : Se) : Prop := (-9223372036854775808 ≤ x.client ∧ x.client ≤ 9223372036854775807) ∧ (-9223372036854775808 ≤ x.index ∧ x.index ≤ 9223372036854775807) ∧ x.bytes.length ≤ maxLen
def OkCa (x : Ca) : Prop := (-9223372036854775808 ≤ x.client ∧ x.client ≤ 9223372036854775807) ∧ (-9223372036854775808 ≤ x.index ∧ x.index ≤ 9223372036854775807)
def OkNa (x : Na) : Prop := x.name.length ≤ maxLen ∧ (-9223372036854775808 ≤ x.id ∧ x.id ≤ 9223372036854775807)
def OkCn (x : Cn) : Prop := (-9223372036854775808 ≤ x.id ∧ x.id ≤ 9223372036854775807) ∧ (-9223372036854775808 ≤ x.refs ∧ x.refs ≤ 9223372036854775807)
def OkCv (x : Cv) : Prop := (-9223372036854775808 ≤ x.phase ∧ x.phase ≤ 9223372036854775807) ∧ (-9223372036854775808 ≤ x.server ∧ x.server ≤ 9223372036854775807) ∧ (-9223372036854775808 ≤ x.done ∧ x.done ≤ 9223372036854775807) ∧ (x.table.length ≤ maxLen ∧ ∀ c ∈ x.table, OkNa c)
def OkSv (x : Sv) : Prop := (-9223372036854775808 ≤ x.state ∧ x.state ≤ 9223372036854775807) ∧ (-9223372036854775808 ≤ x.holder ∧ x.holder ≤ 9223372036854775807) ∧ (-9223372036854775808 ≤ x.queue ∧ x.queue ≤ 9223372036854775807) ∧ (0 ≤ x.status ∧ x.status < 256) ∧ x.cache.length ≤ maxLen ∧ x.pending.length ≤ maxLen
def OkVw (x : Vw) : Prop := (x.clients.length ≤ maxLen ∧ ∀ c ∈ x.clients, OkCv c) ∧ (x.servers.length ≤ maxLen ∧ ∀ c ∈ x.servers, OkSv c) ∧ (x.registry.length ≤ maxLen ∧ ∀ c ∈ x.registry, OkCn c) ∧ x.waiting.length ≤ maxLen
end Go.Proofs.Ytngkdlfgmpflnaa.Ax
namespace Go.Proofs.Ytngkdlfgmpflnaa.Ax
open Go.RowKit Go By Nm Sc Dg
set_option linter.unusedSimpArgs false
set_option linter.unusedVariables false
set_option maxRecDepth 10000

def sameK (a b : Sm) : Bool := a.text == b.text && a.oids == b.oids
theorem sameK_eq (a b : Sm) : sameK a b = decide (a = b) := by
  obtain ⟨a1, a2⟩ := a
  obtain ⟨b1, b2⟩ := b
  rw [Bool.eq_iff_iff]
  simp [sameK]
theorem sameK_refl (a : Sm) : sameK a a = true := by rw [sameK_eq]; simp
theorem krsame_c (a b : Sm) (hl : a.oids.length ≤ 140737488355328) (h : List (List AV)) : Contract Try.prog 30 [.agg (smC a), .agg (smC b)] h (.v (.bool (sameK a b))) h [] := by
  refine contract_of k30 mixed (by simp [c30]) fun hh hargs => ?_
  cases ht : a.text == b.text with
  | false => simp [c30, ht, hh, sameK]
  | true =>
    simp [c30, ht]
    refine xcall_self (by simp) (rints_c _ _ hl _) ?_
    simp [hh, sameK, ht]
def fewK (m : Sm) : Bool := decide ((m.text.length : Int) ≤ 1000) && decide ((m.oids.length : Int) ≤ 50)
theorem few_yes {m : Sm} (h : fewK m = true) : m.text.length ≤ 1000 ∧ m.oids.length ≤ 50 := by
  unfold fewK at h
  simp at h
  omega
/-! ### A key's statement -/
theorem keyB_len {m : Sm} (h : fewK m = true) : (keyB m).length ≤ 1300 := by
  obtain ⟨h1, h2⟩ := few_yes h
  unfold keyB
  split
  · unfold keyBytes
    have h3 := numE_le (m.text.length : Int)
    have h4 := numsL_le m.oids
    rw [List.length_append, List.length_append]; omega
  · simp
theorem key_split {m : Sm} (h : keyable m = true) : splitOk (keyB m) = true ∧ splitK (keyB m) = m := by
  have hk : keyB m = numE 4 m.text.length ++ (m.text ++ numsL m.oids) := by unfold keyB; rw [if_pos h]; unfold keyBytes; rw [List.append_assoc]
  unfold keyable okList at h
  simp only [Bool.and_eq_true, decide_eq_true_eq] at h
  obtain ⟨h1, h2, h3⟩ := h
  have ho : okT (m.text.length : Int) = true := (okT_iff _).2 (by omega)
  have h4 := numE_four ho
  have ha : ∀ n ∈ m.oids, okT n = true := fun n hn => List.all_eq_true.1 h3 n hn
  have h5 := numsL_len ha
  have hL : lenK (keyB m) = m.text.length := by
    unfold lenK
    rw [hk, getI_pre _ _ _ _ (by omega), numE_back ho]; simp
  have hd : (keyB m).drop 4 = m.text ++ numsL m.oids := by rw [hk, show 4 = (numE 4 (m.text.length : Int)).length from h4.symm, List.drop_left]
  have ht : textK (keyB m) = m.text := by unfold textK; rw [hL, hd, List.take_left]
  have hr : restK (keyB m) = numsL m.oids := by unfold restK; rw [hL, ← List.drop_drop, hd, List.drop_left]
  have hlen : (keyB m).length = 4 + (m.text.length + (numsL m.oids).length) := by rw [hk, List.length_append, List.length_append, h4]
  have hs : splitOk (keyB m) = true := by
    unfold splitOk
    rw [hL, hr, Bool.and_eq_true, decide_eq_true_eq, beq_iff_eq]
    omega
  refine ⟨hs, ?_⟩
  unfold splitK
  rw [if_pos hs, ht, hr, show (numsL m.oids).length / 4 = m.oids.length by omega, numsOf_numsL ha]
theorem keyB_none {m : Sm} (h : keyable m = false) : keyB m = [] := by unfold keyB; rw [h]; rfl
theorem keyB_some {m : Sm} (h : keyable m = true) : keyB m ≠ [] := fun e => by
  have hk : keyB m = keyBytes m := by unfold keyB; rw [if_pos h]
  rw [hk] at e
  unfold keyBytes at e
  unfold keyable at h
  simp only [Bool.and_eq_true, decide_eq_true_eq] at h
  have h4 := numE_four (n := m.text.length) ((okT_iff _).2 (by omega))
  rw [List.append_eq_nil_iff, List.append_eq_nil_iff] at e
  rw [e.1.1] at h4
  cases h4
theorem keyB_inj {a b : Sm} (ha : keyable a = true) (hb : keyable b = true) : keyB a = keyB b ↔ a = b := by
  constructor
  · intro e
    have h1 := (key_split ha).2
    rw [e, (key_split hb).2] at h1
    exact h1.symm
  · rintro rfl; rfl
def awK : Sm := ⟨[97], [23]⟩
theorem awK_ok : keyable awK = true := by decide +kernel
end Go.Proofs.Ytngkdlfgmpflnaa.Ax
