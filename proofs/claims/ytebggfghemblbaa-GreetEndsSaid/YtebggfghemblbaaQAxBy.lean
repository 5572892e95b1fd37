/- The document's messages of back: their bytes, one behind the other. -/
import Derived.Test.YtebggfghemblbaaQAxWo
import Derived.Test.YtebggfghemblbaaQAxXr
import Derived.Test.YtebggfghemblbaaRows
import Derived.Test.YtebggfghemblbaaQAxFm
import Derived.Test.YtebggfghemblbaaQAxBs
import Derived.Test.YtebggfghemblbaaQAxBw
/- What reads as data of the types of package api is laid out as their structures are. Written by gen/ax_types.py. -/
namespace Go.Proofs.Ytebggfghemblbaa.Ax
open Go.RowKit Go By
set_option linter.unusedSimpArgs false
set_option linter.unusedVariables false

theorem i64_wf {n : Int} (h : (Lit.int .i64 n).wf = true) : -9223372036854775808 ≤ n ∧ n ≤ 9223372036854775807 := by
  simp [Lit.wf, IntKind.min, IntKind.max, IntKind.signed, IntKind.bits] at h
  omega
theorem sh_int : Shape Try.prog 3 (fun n : Int => [.v (.int .i64 n)]) (fun n => -9223372036854775808 ≤ n ∧ n ≤ 9223372036854775807) := Shape.map (shape_int Try.underlying3) id (fun _ => rfl) (fun _ => i64_wf)
theorem sh_u8 : Shape Try.prog 5 (fun n : Int => [.v (.int .u8 n)]) (fun n => 0 ≤ n ∧ n < 256) := Shape.map (shape_int Try.underlying5) id (fun _ => rfl) (fun _ => u8_of_wf)
theorem sh_bool : Shape Try.prog 4 (fun b : Bool => [.v (.bool b)]) (fun _ => True) := shape_bool Try.underlying4
theorem sh_str : Shape Try.prog 9 strC (fun s => s.length ≤ maxLen) := shape_str Try.underlying9
theorem sh_bytes : Shape Try.prog 41 (fun l : List UInt8 => [.sl 1 (bytesE l) none .no]) (fun l => l.length ≤ maxLen) := shape_bytes Try.underlying41 (by kernel_rfl) Try.underlying5
theorem sh_ints : Shape Try.prog 29 (fun l : List Int => [.sl 1 (enc intC l) none .no]) (fun l => l.length ≤ maxLen) := Shape.map (shape_slice Try.underlying29 (by kernel_rfl) (by decide) sh_int (fun _ => rfl)) id (fun _ => rfl) (fun _ h => h.1)
def OkCl (x : Cl) : Prop := True ∧ x.2.length ≤ maxLen
theorem sh_cellC : Shape Try.prog 43 cellC OkCl :=
  Shape.map (shape_struct Try.underlying43 (by kernel_rfl) (shape_cons (k := 1) rfl (by kernel_rfl) sh_bool (by kernel_rfl) (shape_one (k := 1) rfl (by kernel_rfl) sh_bytes))) (fun p => (p.1, p.2)) (fun _ => rfl) (fun _ h => h)
theorem sh_cellCL : Shape Try.prog 22 (fun l : List Cl => [.sl 2 (enc cellC l) none .no]) (fun l => l.length ≤ maxLen ∧ ∀ x ∈ l, OkCl x) := shape_slice Try.underlying22 (by kernel_rfl) (by decide) sh_cellC (fun _ => rfl)
def OkMs (x : Ms) : Prop := (0 ≤ x.type ∧ x.type < 256) ∧ x.body.length ≤ maxLen
theorem sh_msC : Shape Try.prog 84 msC OkMs :=
  Shape.map (shape_struct Try.underlying84 (by kernel_rfl) (shape_cons (k := 1) rfl (by kernel_rfl) sh_u8 (by kernel_rfl) (shape_one (k := 1) rfl (by kernel_rfl) sh_bytes))) (fun p => ⟨p.1, p.2⟩) (fun _ => rfl) (fun _ h => h)
def OkPa (x : Pa) : Prop := x.name.length ≤ maxLen ∧ x.value.length ≤ maxLen
theorem sh_paC : Shape Try.prog 81 paC OkPa :=
  Shape.map (shape_struct Try.underlying81 (by kernel_rfl) (shape_cons (k := 1) rfl (by kernel_rfl) sh_str (by kernel_rfl) (shape_one (k := 1) rfl (by kernel_rfl) sh_str))) (fun p => ⟨p.1, p.2⟩) (fun _ => rfl) (fun _ h => h)
theorem sh_paCL : Shape Try.prog 45 (fun l : List Pa => [.sl 2 (enc paC l) none .no]) (fun l => l.length ≤ maxLen ∧ ∀ x ∈ l, OkPa x) := shape_slice Try.underlying45 (by kernel_rfl) (by decide) sh_paC (fun _ => rfl)
def OkCo (x : Co) : Prop := x.name.length ≤ maxLen ∧ (-9223372036854775808 ≤ x.table ∧ x.table ≤ 9223372036854775807) ∧ (-9223372036854775808 ≤ x.attr ∧ x.attr ≤ 9223372036854775807) ∧ (-9223372036854775808 ≤ x.oid ∧ x.oid ≤ 9223372036854775807) ∧ (-9223372036854775808 ≤ x.size ∧ x.size ≤ 9223372036854775807) ∧ (-9223372036854775808 ≤ x.mod ∧ x.mod ≤ 9223372036854775807) ∧ (-9223372036854775808 ≤ x.format ∧ x.format ≤ 9223372036854775807)
theorem sh_coC : Shape Try.prog 67 coC OkCo :=
  Shape.map (shape_struct Try.underlying67 (by kernel_rfl) (shape_cons (k := 1) rfl (by kernel_rfl) sh_str (by kernel_rfl) (shape_cons (k := 1) rfl (by kernel_rfl) sh_int (by kernel_rfl) (shape_cons (k := 1) rfl (by kernel_rfl) sh_int (by kernel_rfl) (shape_cons (k := 1) rfl (by kernel_rfl) sh_int (by kernel_rfl) (shape_cons (k := 1) rfl (by kernel_rfl) sh_int (by kernel_rfl) (shape_cons (k := 1) rfl (by kernel_rfl) sh_int (by kernel_rfl) (shape_one (k := 1) rfl (by kernel_rfl) sh_int)))))))) (fun p => ⟨p.1, p.2.1, p.2.2.1, p.2.2.2.1, p.2.2.2.2.1, p.2.2.2.2.2.1, p.2.2.2.2.2.2⟩) (fun _ => rfl) (fun _ h => h)
theorem sh_coCL : Shape Try.prog 27 (fun l : List Co => [.sl 7 (enc coC l) none .no]) (fun l => l.length ≤ maxLen ∧ ∀ x ∈ l, OkCo x) := shape_slice Try.underlying27 (by kernel_rfl) (by decide) sh_coC (fun _ => rfl)
def OkFi (x : Fi) : Prop := (0 ≤ x.code ∧ x.code < 256) ∧ x.text.length ≤ maxLen
theorem sh_fiC : Shape Try.prog 70 fiC OkFi :=
  Shape.map (shape_struct Try.underlying70 (by kernel_rfl) (shape_cons (k := 1) rfl (by kernel_rfl) sh_u8 (by kernel_rfl) (shape_one (k := 1) rfl (by kernel_rfl) sh_str))) (fun p => ⟨p.1, p.2⟩) (fun _ => rfl) (fun _ h => h)
theorem sh_fiCL : Shape Try.prog 30 (fun l : List Fi => [.sl 2 (enc fiC l) none .no]) (fun l => l.length ≤ maxLen ∧ ∀ x ∈ l, OkFi x) := shape_slice Try.underlying30 (by kernel_rfl) (by decide) sh_fiC (fun _ => rfl)
def OkSm (x : Sm) : Prop := x.text.length ≤ maxLen ∧ x.oids.length ≤ maxLen
theorem sh_smC : Shape Try.prog 56 smC OkSm :=
  Shape.map (shape_struct Try.underlying56 (by kernel_rfl) (shape_cons (k := 1) rfl (by kernel_rfl) sh_str (by kernel_rfl) (shape_one (k := 1) rfl (by kernel_rfl) sh_ints))) (fun p => ⟨p.1, p.2⟩) (fun _ => rfl) (fun _ h => h)
def OkHm (x : Hm) : Prop := (-9223372036854775808 ≤ x.code ∧ x.code ≤ 9223372036854775807) ∧ (-9223372036854775808 ≤ x.process ∧ x.process ≤ 9223372036854775807) ∧ (-9223372036854775808 ≤ x.secret ∧ x.secret ≤ 9223372036854775807) ∧ (x.params.length ≤ maxLen ∧ ∀ c ∈ x.params, OkPa c)
def OkFm (x : Fm) : Prop := (0 ≤ x.kind ∧ x.kind < 256) ∧ (0 ≤ x.what ∧ x.what < 256) ∧ x.name.length ≤ maxLen ∧ x.portal.length ≤ maxLen ∧ x.text.length ≤ maxLen ∧ x.oids.length ≤ maxLen ∧ x.formats.length ≤ maxLen ∧ x.results.length ≤ maxLen ∧ (x.params.length ≤ maxLen ∧ ∀ c ∈ x.params, OkCl c) ∧ (-9223372036854775808 ≤ x.max ∧ x.max ≤ 9223372036854775807)
def OkBk (x : Bk) : Prop := (0 ≤ x.kind ∧ x.kind < 256) ∧ (0 ≤ x.status ∧ x.status < 256) ∧ x.tag.length ≤ maxLen ∧ x.name.length ≤ maxLen ∧ x.value.length ≤ maxLen ∧ (-9223372036854775808 ≤ x.n ∧ x.n ≤ 9223372036854775807) ∧ (-9223372036854775808 ≤ x.m ∧ x.m ≤ 9223372036854775807) ∧ x.oids.length ≤ maxLen ∧ (x.cols.length ≤ maxLen ∧ ∀ c ∈ x.cols, OkCo c) ∧ (x.row.length ≤ maxLen ∧ ∀ c ∈ x.row, OkCl c) ∧ (x.fields.length ≤ maxLen ∧ ∀ c ∈ x.fields, OkFi c)
theorem sh_bkC : Shape Try.prog 32 bkC OkBk :=
  Shape.map (shape_struct Try.underlying32 (by kernel_rfl) (shape_cons (k := 1) rfl (by kernel_rfl) sh_u8 (by kernel_rfl) (shape_cons (k := 1) rfl (by kernel_rfl) sh_u8 (by kernel_rfl) (shape_cons (k := 1) rfl (by kernel_rfl) sh_str (by kernel_rfl) (shape_cons (k := 1) rfl (by kernel_rfl) sh_str (by kernel_rfl) (shape_cons (k := 1) rfl (by kernel_rfl) sh_str (by kernel_rfl) (shape_cons (k := 1) rfl (by kernel_rfl) sh_int (by kernel_rfl) (shape_cons (k := 1) rfl (by kernel_rfl) sh_int (by kernel_rfl) (shape_cons (k := 1) rfl (by kernel_rfl) sh_ints (by kernel_rfl) (shape_cons (k := 1) rfl (by kernel_rfl) sh_coCL (by kernel_rfl) (shape_cons (k := 1) rfl (by kernel_rfl) sh_cellCL (by kernel_rfl) (shape_one (k := 1) rfl (by kernel_rfl) sh_fiCL)))))))))))) (fun p => ⟨p.1, p.2.1, p.2.2.1, p.2.2.2.1, p.2.2.2.2.1, p.2.2.2.2.2.1, p.2.2.2.2.2.2.1, p.2.2.2.2.2.2.2.1, p.2.2.2.2.2.2.2.2.1, p.2.2.2.2.2.2.2.2.2.1, p.2.2.2.2.2.2.2.2.2.2⟩) (fun _ => rfl) (fun _ h => h)
theorem sh_bkCL : Shape Try.prog 47 (fun l : List Bk => [.sl 11 (enc bkC l) none .no]) (fun l => l.length ≤ maxLen ∧ ∀ x ∈ l, OkBk x) := shape_slice Try.underlying47 (by kernel_rfl) (by decide) sh_bkC (fun _ => rfl)
def OkTo (x : To) : Prop := True ∧ x.name.length ≤ maxLen ∧ (-9223372036854775808 ≤ x.id ∧ x.id ≤ 9223372036854775807)
def OkOc (x : Oc) : Prop := (-9223372036854775808 ≤ x.kind ∧ x.kind ≤ 9223372036854775807) ∧ (-9223372036854775808 ≤ x.id ∧ x.id ≤ 9223372036854775807)
def OkEn (x : En) : Prop := (-9223372036854775808 ≤ x.kind ∧ x.kind ≤ 9223372036854775807) ∧ True ∧ x.from_.length ≤ maxLen ∧ x.to.length ≤ maxLen ∧ (x.good.length ≤ maxLen ∧ ∀ c ∈ x.good, OkTo c) ∧ (x.bad.length ≤ maxLen ∧ ∀ c ∈ x.bad, OkTo c) ∧ (x.cache.length ≤ maxLen ∧ ∀ c ∈ x.cache, OkOc c) ∧ x.reply.length ≤ maxLen
def OkVb (x : Vb) : Prop := (-9223372036854775808 ≤ x.kind ∧ x.kind ≤ 9223372036854775807) ∧ (-9223372036854775808 ≤ x.n ∧ x.n ≤ 9223372036854775807) ∧ x.code.length ≤ maxLen
def OkCf (x : Cf) : Prop := (-9223372036854775808 ≤ x.servers ∧ x.servers ≤ 9223372036854775807) ∧ (-9223372036854775808 ≤ x.cache ∧ x.cache ≤ 9223372036854775807) ∧ (-9223372036854775808 ≤ x.table ∧ x.table ≤ 9223372036854775807) ∧ (-9223372036854775808 ≤ x.message ∧ x.message ≤ 9223372036854775807) ∧ (-9223372036854775808 ≤ x.buffer ∧ x.buffer ≤ 9223372036854775807) ∧ (-9223372036854775808 ≤ x.queue ∧ x.queue ≤ 9223372036854775807) ∧ (x.params.length ≤ maxLen ∧ ∀ c ∈ x.params, OkPa c)
def OkEv (x : Ev) : Prop := (-9223372036854775808 ≤ x.kind ∧ x.kind ≤ 9223372036854775807) ∧ (-9223372036854775808 ≤ x.who ∧ x.who ≤ 9223372036854775807) ∧ (-9223372036854775808 ≤ x.n ∧ x.n ≤ 9223372036854775807) ∧ x.bytes.length ≤ maxLen
def OkSe (x : Se) : Prop := (-9223372036854775808 ≤ x.client ∧ x.client ≤ 9223372036854775807) ∧ (-9223372036854775808 ≤ x.index ∧ x.index ≤ 9223372036854775807) ∧ x.bytes.length ≤ maxLen
def OkCa (x : Ca) : Prop := (-9223372036854775808 ≤ x.client ∧ x.client ≤ 9223372036854775807) ∧ (-9223372036854775808 ≤ x.index ∧ x.index ≤ 9223372036854775807)
def OkNa (x : Na) : Prop := x.name.length ≤ maxLen ∧ (-9223372036854775808 ≤ x.id ∧ x.id ≤ 9223372036854775807)
def OkCn (x : Cn) : Prop := (-9223372036854775808 ≤ x.id ∧ x.id ≤ 9223372036854775807) ∧ (-9223372036854775808 ≤ x.refs ∧ x.refs ≤ 9223372036854775807)
def OkCv (x : Cv) : Prop := (-9223372036854775808 ≤ x.phase ∧ x.phase ≤ 9223372036854775807) ∧ (-9223372036854775808 ≤ x.server ∧ x.server ≤ 9223372036854775807) ∧ (-9223372036854775808 ≤ x.done ∧ x.done ≤ 9223372036854775807) ∧ (x.table.length ≤ maxLen ∧ ∀ c ∈ x.table, OkNa c)
def OkSv (x : Sv) : Prop := (-9223372036854775808 ≤ x.state ∧ x.state ≤ 9223372036854775807) ∧ (-9223372036854775808 ≤ x.holder ∧ x.holder ≤ 9223372036854775807) ∧ (-9223372036854775808 ≤ x.queue ∧ x.queue ≤ 9223372036854775807) ∧ (0 ≤ x.status ∧ x.status < 256) ∧ x.cache.length ≤ maxLen ∧ x.pending.length ≤ maxLen
def OkVw (x : Vw) : Prop := (x.clients.length ≤ maxLen ∧ ∀ c ∈ x.clients, OkCv c) ∧ (x.servers.length ≤ maxLen ∧ ∀ c ∈ x.servers, OkSv c) ∧ (x.registry.length ≤ maxLen ∧ ∀ c ∈ x.registry, OkCn c) ∧ x.waiting.length ≤ maxLen
end Go.Proofs.Ytebggfghemblbaa.Ax
/- The statements of layer 6 (front) as contracts. -/
namespace Go.Proofs.Ytebggfghemblbaa.Ax
open Go.RowKit Go By Nm Sc Dg
open He (textL)
set_option linter.unusedSimpArgs false
set_option linter.unusedVariables false
set_option maxRecDepth 10000

/-! ### Sizes -/
theorem textL_len (st : Sta) : (textL st).length ≤ He.lenS st := by
  unfold He.textL
  split
  · split
    · simp [He.lenS]; omega
    · simp
  · simp
theorem takeL_len (st : Sta) (n : Int) : (takeL st n).length ≤ He.lenS st := by
  unfold takeL
  split
  · split
    · simp [He.lenS]; omega
    · simp
  · simp
theorem cellV_len (st : Sta) : (cellV st).2.length ≤ He.lenS st := by
  rw [cellV_eq]
  split
  · simp
  · exact Nat.le_trans (takeL_len _ _) (numS_len _ _)
theorem readR_cells : ∀ (n : Nat) (st : Sta), ∀ c ∈ (readR cellV cellS n st).1, c.2.length ≤ He.lenS st
  | 0, _, c, h => by cases h
  | n + 1, st, c, h => by
    rw [readR] at h
    rcases List.mem_cons.1 h with rfl | h
    · exact cellV_len st
    · exact Nat.le_trans (readR_cells n _ c h) (cellS_len st)
theorem readU_cells : ∀ (n : Nat) (st : Sta), ∀ c ∈ readU cellV cellS n st, c.2.length ≤ He.lenS st
  | 0, _, c, h => by cases h
  | n + 1, st, c, h => by
    rw [readU] at h
    split at h
    · cases h
    · rcases List.mem_cons.1 h with rfl | h
      · exact cellV_len st
      · exact Nat.le_trans (readU_cells n _ c h) (cellS_len st)
theorem listV_len {α : Type} (v : Sta → α) (s : Sta → Sta) (st : Sta) : (listV v s st).length ≤ 65535 := by
  have := num2_range st
  rw [listV_eq]
  split
  · simp
  · rw [readR_len]; omega
theorem listU_len {α : Type} (v : Sta → α) (s : Sta → Sta) (st : Sta) : (listU v s st).length ≤ 65535 := by
  have := num2_range st
  have h := readU_len v s (numV st 2).toNat (numS st 2)
  unfold listU
  omega
theorem listV_cells (st : Sta) : ∀ c ∈ listV cellV cellS st, c.2.length ≤ He.lenS st := fun c hc => by
  rw [listV_eq] at hc
  split at hc
  · cases hc
  · exact Nat.le_trans (readR_cells _ _ c hc) (numS_len _ _)
theorem listU_cells (st : Sta) : ∀ c ∈ listU cellV cellS st, c.2.length ≤ He.lenS st := fun c hc => by
  exact Nat.le_trans (readU_cells _ _ c hc) (numS_len _ _)
theorem numbersS_len (size : Int) (st : Sta) : He.lenS (numbersS size st) ≤ He.lenS st := listS_len _ _ (fun st => numS_len st size) st
theorem fit_read {k : Int} {st : Sta} (hl : He.lenS st ≤ 2000) : FmFit (readV k st) ∧ (0 ≤ (readV k st).what ∧ (readV k st).what < 256) ∧ ∀ c ∈ (readV k st).params, c.2.length ≤ 2000 := by
  have t0 := textL_len st
  have s1 := He.textS_len st
  have t1 := textL_len (textS st)
  have n1 := numS_len st 1
  have t2 := textL_len (numS st 1)
  have s2 := He.textS_len (textS st)
  have s3 := numbersS_len 2 (textS (textS st))
  have r1 := num1_range st
  unfold readV
  repeat' split
  all_goals (unfold FmFit; dsimp only)
  all_goals refine ⟨⟨?_, ?_, ?_, ?_, ?_, ?_, ?_, ?_⟩, ?_, ?_⟩
  all_goals first
    | exact Nat.zero_le _
    | (intro c hc; cases hc; done)
    | (exact Nat.le_trans (listV_len _ _ _) (by omega))
    | (intro c hc; have := listV_cells _ c hc; omega)
    | omega
    | (simp; done)
theorem fit_rread {k : Int} {r : Rs} (hl : He.lenS (rabs r) ≤ 2000) : FmFit (rreadV k r) := by
  have t0 := textL_len (rabs r)
  have s1 := He.textS_len (rabs r)
  have t1 := textL_len (textS (rabs r))
  have n1 := numS_len (rabs r) 1
  have t2 := textL_len (numS (rabs r) 1)
  have s2 := He.textS_len (textS (rabs r))
  have s3 := numbersS_len 2 (textS (textS (rabs r)))
  unfold rreadV
  repeat' split
  all_goals (unfold FmFit; dsimp only)
  all_goals refine ⟨?_, ?_, ?_, ?_, ?_, ?_, ?_, ?_⟩
  all_goals first
    | exact Nat.zero_le _
    | (intro c hc; cases hc; done)
    | (exact Nat.le_trans (listU_len _ _ _) (by omega))
    | (intro c hc; have := listU_cells _ c hc; omega)
    | omega
    | (simp; done)
theorem noFm_fit : FmFit noFm := by unfold FmFit noFm; simp

/-! ### What Decode answers on both sides is one -/
theorem listU_V {α : Type} (v : Sta → α) (s : Sta → Sta) (hs : s none = none) {st : Sta} {r : List UInt8} (h : listS v s st = some r) : listU v s st = listV v s st := listU_eq v s hs st (by rw [h]; simp)
theorem rread_eq {k : Int} {xs : List UInt8} (h : readS k (some xs) = some []) : rreadV k (xs, false) = readV k (some xs) := by
  unfold readS at h
  unfold rreadV readV
  rw [rabs_false]
  by_cases h80 : k = 80
  · rw [if_pos h80] at h ⊢
    rw [if_pos h80]
    have e : numbersU 4 (textS (textS (some xs))) = numbersV 4 (textS (textS (some xs))) := listU_V _ _ rfl h
    rw [e]
  · rw [if_neg h80] at h ⊢
    rw [if_neg h80]
    by_cases h66 : k = 66
    · rw [if_pos h66] at h ⊢
      rw [if_pos h66]
      obtain ⟨ws, e4⟩ := some_of (numbersS_none 2) h
      obtain ⟨zs, e3⟩ := some_of cellsS_none e4
      have q1 : numbersU 2 (textS (textS (some xs))) = numbersV 2 (textS (textS (some xs))) := listU_V _ _ rfl e3
      have q2 : listU cellV cellS (numbersS 2 (textS (textS (some xs)))) = cellsV (numbersS 2 (textS (textS (some xs)))) := listU_V _ _ cellS_none e4
      have q3 : numbersU 2 (cellsS (numbersS 2 (textS (textS (some xs))))) = numbersV 2 (cellsS (numbersS 2 (textS (textS (some xs))))) := listU_V _ _ rfl h
      rw [q1, q2, q3]
    · rw [if_neg h66, if_neg h66]
theorem dec_eq {m : Ms} (hx : m.body.length ≤ 2000) : decF m = rdecF m := by
  rcases known_three m.type with k | k | k
  · have n2 : ¬ knownI m.type = 2 := by omega
    unfold decF rdecF
    rw [if_pos k, if_neg n2, if_pos k]
  · have n0 : ¬ knownI m.type = 0 := by omega
    have n2 : ¬ knownI m.type = 2 := by omega
    have e1 : decF m = if doneB (readS m.type (some m.body)) && whatB (readV m.type (some m.body)) then (readV m.type (some m.body), 0) else (noFm, 4) := by unfold decF; rw [if_neg n0, if_neg n2]
    have e2 : rdecF m = if doneB (readS m.type (some m.body)) && rcheckF (rreadV m.type (m.body, false)) == 0 then (rreadV m.type (m.body, false), 0) else (noFm, 4) := by unfold rdecF; rw [if_neg n2, if_neg n0]
    rw [e1, e2]
    cases hd : doneB (readS m.type (some m.body)) with
    | false => rfl
    | true =>
      have hs := done_nil hd
      rw [rread_eq hs, ← check_eq]
      cases hw : whatB (readV m.type (some m.body)) with
      | true =>
        obtain ⟨_, h2⟩ := read_back k (by omega) hs hw
        rw [h2]; rfl
      | false =>
        have : checkF (readV m.type (some m.body)) ≠ 0 := fun hc => by
          have := (check_ok hc).2.1; rw [hw] at this; cases this
        have e : (checkF (readV m.type (some m.body)) == 0) = false := by simpa using this
        rw [e]
  · have n0 : ¬ knownI m.type = 0 := by omega
    unfold decF rdecF
    rw [if_neg n0, if_pos k, if_pos k]
theorem dec_fit {m : Ms} (hx : m.body.length ≤ 2000) : FmFit (decF m).1 := by
  unfold decF
  repeat' split
  all_goals first | exact noFm_fit | exact (fit_read (st := some m.body) hx).1
theorem sameF_refl (a : Fm) : sameF a a = true := by rw [sameF_eq]; simp

/-! ### Messages that are short enough -/
def manyF (m : Fm) : Bool := decide (50 < (m.oids.length : Int)) || (decide (50 < (m.formats.length : Int)) || (decide (50 < (m.results.length : Int)) || decide (50 < (m.params.length : Int))))
def longC (c : Cl) : Bool := decide (300 < (c.2.length : Int))
def plainF (m : Fm) : Bool := !manyF m && (!m.params.any longC && (decide ((m.name.length : Int) ≤ 300) && (decide ((m.portal.length : Int) ≤ 300) && decide ((m.text.length : Int) ≤ 1000))))
/-- Its size then. -/
theorem fit_of_plain {m : Fm} (h : plainF m = true) : FmFit m ∧ (∀ c ∈ m.params, c.2.length ≤ 300) ∧ (bodyF m).length ≤ 100000 := by
  unfold plainF manyF at h
  simp only [Bool.and_eq_true, Bool.not_eq_true', Bool.or_eq_false_iff, decide_eq_false_iff_not, decide_eq_true_eq] at h
  obtain ⟨⟨h1, h2, h3, h4⟩, h5, h6, h7, h8⟩ := h
  have hc : ∀ c ∈ m.params, c.2.length ≤ 300 := fun c hc => by
    have := List.any_eq_false.1 h5 c hc
    simp [longC] at this; omega
  refine ⟨⟨by omega, by omega, by omega, by omega, fun c h => by have := hc c h; omega, by omega, by omega, by omega⟩, hc, ?_⟩
  have numsL : ∀ (size : Int) (l : List Int), size ≤ 4 → l.length ≤ 50 → (listL (numE size) l).length ≤ 204 := fun size l hs hl => by
    have key : ∀ l : List Int, (l.flatMap (numE size)).length ≤ 4 * l.length := fun l => by
      induction l with
      | nil => simp
      | cons x l ih =>
        have := put_len x size hs []
        rw [List.flatMap_cons, List.length_append, List.length_cons]
        simp only [numE, List.length_nil] at this ⊢
        omega
    have := key l
    have := put_len (l.length : Int) 2 (by omega) []
    rw [listL_eq, List.length_append]
    simp only [List.length_nil] at this
    omega
  have cellsL : (listL cellE m.params).length ≤ 15204 := by
    have key : ∀ l : List Cl, (∀ c ∈ l, c.2.length ≤ 300) → (l.flatMap cellE).length ≤ 304 * l.length := fun l => by
      induction l with
      | nil => intro _; simp
      | cons x l ih =>
        intro hl
        have h1 := ih fun c hc => hl c (List.mem_cons_of_mem _ hc)
        have h2 := hl x (List.mem_cons_self ..)
        rw [List.flatMap_cons, List.length_append, List.length_cons]
        obtain ⟨n, b⟩ := x
        have h2' : b.length ≤ 300 := h2
        cases n with
        | true =>
          have := put_len 4294967295 4 (by omega) []
          rw [cellE_null]; simp only [List.length_nil] at this; omega
        | false =>
          have := put_len (b.length : Int) 4 (by omega) []
          rw [cellE_bytes, List.length_append]; simp only [List.length_nil] at this; omega
    have := key m.params hc
    have := put_len (m.params.length : Int) 2 (by omega) []
    rw [listL_eq, List.length_append]
    simp only [List.length_nil] at this
    omega
  have n1 := numsL 4 m.oids (by omega) (by omega)
  have n2 := numsL 2 m.formats (by omega) (by omega)
  have n3 := numsL 2 m.results (by omega) (by omega)
  have n4 := put_len m.max 4 (by omega) (textsL [m.portal])
  have t : ∀ (l : List UInt8), (He.encT l).length = l.length + 1 := encT_len
  unfold bodyF
  repeat' split
  all_goals simp only [textsL, List.flatMap_cons, List.flatMap_nil, List.length_append, List.length_cons, List.length_nil, t, List.append_nil] at n4 ⊢
  all_goals omega

/-! ### The statements -/
def aw : Fm := ⟨80, 0, [97], [], [98, 101, 103, 105, 110], [23], [], [], [], 0⟩
theorem aw_check : checkF aw = 0 := by decide
theorem aw_fit : FmFit aw := by unfold FmFit aw; simp
theorem aw_body : (bodyF aw).length ≤ 100000 := by decide
theorem dec_of_enc {m : Fm} (h : checkF m = 0) : encF m = (⟨m.kind, bodyF m⟩, 0) ∧ decF ⟨m.kind, bodyF m⟩ = (m, 0) := by
  obtain ⟨h1, h2, _⟩ := check_ok h
  obtain ⟨h3, h4⟩ := read_there h
  refine ⟨if_pos h, ?_⟩
  have n0 : ¬ knownI m.kind = 0 := by omega
  have n2 : ¬ knownI m.kind = 2 := by omega
  unfold decF
  rw [if_neg n0, if_neg n2]
  show (if doneB (readS m.kind (some (bodyF m))) && whatB (readV m.kind (some (bodyF m))) then (readV m.kind (some (bodyF m)), (0 : Int)) else (noFm, 4)) = (m, 0)
  rw [h3, h4, h2]; rfl
theorem dec_good {m : Ms} (h : (decF m).2 = 0) : knownI m.type = 1 ∧ readS m.type (some m.body) = some [] ∧ whatB (readV m.type (some m.body)) = true ∧ (decF m).1 = readV m.type (some m.body) := by
  rcases known_three m.type with k | k | k
  · unfold decF at h; rw [if_pos k] at h; cases h
  · have n0 : ¬ knownI m.type = 0 := by omega
    have n2 : ¬ knownI m.type = 2 := by omega
    have e1 : decF m = if doneB (readS m.type (some m.body)) && whatB (readV m.type (some m.body)) then (readV m.type (some m.body), 0) else (noFm, 4) := by unfold decF; rw [if_neg n0, if_neg n2]
    rw [e1] at h ⊢
    split at h
    · rename_i hc
      rw [Bool.and_eq_true] at hc
      rw [if_pos (by rw [Bool.and_eq_true]; exact hc)]
      exact ⟨k, done_nil hc.1, hc.2, rfl⟩
    · cases h
  · have n0 : ¬ knownI m.type = 0 := by omega
    unfold decF at h; rw [if_neg n0, if_pos k] at h; cases h
theorem dec_bad {m : Ms} (h : (decF m).2 ≠ 0) : (decF m).1 = noFm := by
  unfold decF at h ⊢
  repeat' split
  all_goals first
    | rfl
    | (exfalso; apply h; simp [*])
theorem readV_kind (k : Int) (st : Sta) : (readV k st).kind = k := by
  unfold readV
  repeat' split
  all_goals first | rfl | (rename_i h; exact h.symm) | (symm; assumption)
end Go.Proofs.Ytebggfghemblbaa.Ax
/- The statements of layer 7 (back) as contracts. -/
namespace Go.Proofs.Ytebggfghemblbaa.Ax
open Go.RowKit Go By Nm Sc Dg
open He (textL)
set_option linter.unusedSimpArgs false
set_option linter.unusedVariables false
set_option maxRecDepth 10000

/-! ### Messages that are short enough -/
def manyB (m : Bk) : Bool := decide (50 < (m.oids.length : Int)) || (decide (50 < (m.cols.length : Int)) || (decide (50 < (m.row.length : Int)) || decide (50 < (m.fields.length : Int))))
def longCo (c : Co) : Bool := decide (300 < (c.name.length : Int))
def longFi (c : Fi) : Bool := decide (1000 < (c.text.length : Int))
def longB (m : Bk) : Bool := m.cols.any longCo || (m.row.any longC || m.fields.any longFi)
def plainB (m : Bk) : Bool := !manyB m && (!longB m && (decide ((m.tag.length : Int) ≤ 300) && (decide ((m.name.length : Int) ≤ 300) && decide ((m.value.length : Int) ≤ 300))))
theorem flat_le {α : Type} (e : α → List UInt8) (K : Nat) : ∀ l : List α, (∀ x ∈ l, (e x).length ≤ K) → (l.flatMap e).length ≤ K * l.length
  | [], _ => by simp
  | x :: l, hl => by
    have h1 := flat_le e K l fun c hc => hl c (List.mem_cons_of_mem _ hc)
    have h2 := hl x (List.mem_cons_self ..)
    rw [List.flatMap_cons, List.length_append, List.length_cons, Nat.mul_add, Nat.mul_one]
    omega
theorem listL_le {α : Type} (e : α → List UInt8) (K : Nat) (l : List α) (h : ∀ x ∈ l, (e x).length ≤ K) : (listL e l).length ≤ 4 + K * l.length := by
  have h1 := flat_le e K l h
  have h2 := put_len (l.length : Int) 2 (by omega) []
  rw [listL_eq, List.length_append]
  simp only [List.length_nil] at h2
  omega
/-- Its size then. -/
theorem fit_of_plainB {m : Bk} (hs : 0 ≤ m.status ∧ m.status < 256) (hf : ∀ f ∈ m.fields, FiOk f) (h : plainB m = true) : BkFit m ∧ BkOk m ∧ (bodyB m).length ≤ 100000 := by
  unfold plainB manyB longB at h
  simp only [Bool.and_eq_true, Bool.not_eq_true', Bool.or_eq_false_iff, decide_eq_false_iff_not, decide_eq_true_eq] at h
  obtain ⟨⟨h1, h2, h3, h4⟩, ⟨h5, h6, h7⟩, h8, h9, h10⟩ := h
  have hco : ∀ c ∈ m.cols, c.name.length ≤ 300 := fun c hc => by
    have := List.any_eq_false.1 h5 c hc
    simp [longCo] at this; omega
  have hcl : ∀ c ∈ m.row, c.2.length ≤ 300 := fun c hc => by
    have := List.any_eq_false.1 h6 c hc
    simp [longC] at this; omega
  have hfi : ∀ c ∈ m.fields, c.text.length ≤ 1000 := fun c hc => by
    have := List.any_eq_false.1 h7 c hc
    simp [longFi] at this; omega
  have t : ∀ (l : List UInt8), (He.encT l).length = l.length + 1 := encT_len
  refine ⟨⟨by omega, by omega, by omega, by omega, fun c h => by have := hcl c h; omega⟩, ⟨hs, fun c h => by have := hcl c h; omega, fun c h => by have := hco c h; omega, hf⟩, ?_⟩
  have c1 := listL_le cellE 304 m.row fun c hc => by
    have h2 := hcl c hc
    obtain ⟨n, b⟩ := c
    have h2' : b.length ≤ 300 := h2
    cases n with
    | true =>
      have := put_len 4294967295 4 (by omega) []
      rw [cellE_null]; simp only [List.length_nil] at this; omega
    | false =>
      have := put_len (b.length : Int) 4 (by omega) []
      rw [cellE_bytes, List.length_append]; simp only [List.length_nil] at this; omega
  have c2 := listL_le colE 325 m.cols fun c hc => by
    have h2 := hco c hc
    have l1 := numE_len 4 c.table (by omega)
    have l2 := numE_len 2 c.attr (by omega)
    have l3 := numE_len 4 c.oid (by omega)
    have l4 := numE_len 2 c.size (by omega)
    have l5 := numE_len 4 c.mod (by omega)
    have l6 := numE_len 2 c.format (by omega)
    unfold colE
    simp only [textsL_one, List.length_append, t]
    omega
  have c3 := listL_le (numE 4) 4 m.oids fun n _ => numE_len 4 n (by omega)
  have c4 : (fieldsE m.fields).length ≤ 1002 * m.fields.length + 1 := by
    have := flat_le fieldE 1002 m.fields fun f hf => by
      have := hfi f hf
      unfold fieldE
      simp only [textsL_one, List.length_cons, t]
      omega
    unfold fieldsE
    rw [List.length_append, List.length_singleton]
    omega
  have n1 := numE_len 4 m.n (by omega)
  have n2 := numE_len 4 m.m (by omega)
  have n3 := numE_len 4 0 (by omega)
  unfold bodyB
  repeat' split
  all_goals simp only [textsL, List.flatMap_cons, List.flatMap_nil, List.length_append, List.length_cons, List.length_nil, t, List.append_nil] at *
  all_goals omega
end Go.Proofs.Ytebggfghemblbaa.Ax
/- The document's messages of back as bytes, over values without memory. -/
namespace Go.Proofs.Ytebggfghemblbaa.Ax
open Go.RowKit Go By Nm Sc Dg
open He (textL)
set_option linter.unusedSimpArgs false
set_option linter.unusedVariables false
set_option maxRecDepth 10000

theorem put_app (xs : List UInt8) (n size : Int) : putL xs n size = xs ++ numE size n := putL_eq xs n size
theorem colE_eq (c : Co) : colE c = He.encT c.name ++ numE 4 c.table ++ numE 2 c.attr ++ numE 4 c.oid ++ numE 2 c.size ++ numE 4 c.mod ++ numE 2 c.format := by
  simp [colE, textsL]
theorem rbdescribed_c (l : List Co) (hl : (listL colE l).length ≤ 140737488351232) (hn : l.length ≤ 140737488355328) (h : List (List AV)) :
    Contract Try.prog 110 [.sl 7 (enc coC l) none .no] h (.sl 1 (bytesE (listL colE l)) none (.own .res)) h [] := by
  refine contract_of k110 mixed (by simp [c110]) fun hh hargs => ?_
  simp [c110]
  refine xcall_of (rput_c [] l.length 2 (by simp) h) (by simp) (by simp) ?_
  simp
  have e0 : putL [] l.length 2 = putL [] l.length 2 ++ (l.take 0).flatMap colE := by simp
  rw [e0]
  refine xloop_ok (D := Nat) (fun j => ⟨[(0, .sl 7 (enc coC l) none .no), (4, .v (.int .i64 j))], [(3, .sl 1 (bytesE (putL [] l.length 2 ++ (l.take j).flatMap colE)) none (.own (.slot 3)))], h, []⟩) (fun j => j ≤ l.length) (fun j => l.length - j) 0 (by simp) ?_ ?_
  · simp [Leq, hh]
  · intro j hj
    by_cases hlt : j < l.length
    · have hw : IntKind.i64.wrap ((j : Int) + 1) = (j : Int) + 1 := wrap64 (by omega) (by omega)
      obtain ⟨hx, hb⟩ := flat_step colE l (putL [] l.length 2).length j hlt 140737488351232 (by simpa [listL] using hl)
      have hc : colE l[j] = _ := colE_eq l[j]
      rw [hc] at hx hb
      simp only [List.length_append] at hb
      have hs := encT_len l[j].name
      simp [hlt, -List.append_assoc, -bytesE_append]
      generalize l[j] = c at *
      generalize hB : putL [] l.length 2 ++ (l.take j).flatMap colE = B at *
      have hBl : B.length = (putL [] l.length 2).length + ((l.take j).flatMap colE).length := by rw [← hB, List.length_append]
      refine xcall_of (rstr_c B c.name (by omega) _) (by simp) (by simp) ?_
      simp [-List.append_assoc, -bytesE_append]
      refine xcall_of (rput_c (B ++ He.encT c.name) c.table 4 (by simp only [List.length_append]; omega) _) (by simp) (by simp) ?_
      rw [put_app]
      simp [-List.append_assoc, -bytesE_append]
      refine xcall_of (rput_c (B ++ He.encT c.name ++ numE 4 c.table) c.attr 2 (by simp only [List.length_append]; omega) _) (by simp) (by simp) ?_
      rw [put_app]
      simp [-List.append_assoc, -bytesE_append]
      refine xcall_of (rput_c (B ++ He.encT c.name ++ numE 4 c.table ++ numE 2 c.attr) c.oid 4 (by simp only [List.length_append]; omega) _) (by simp) (by simp) ?_
      rw [put_app]
      simp [-List.append_assoc, -bytesE_append]
      refine xcall_of (rput_c (B ++ He.encT c.name ++ numE 4 c.table ++ numE 2 c.attr ++ numE 4 c.oid) c.size 2 (by simp only [List.length_append]; omega) _) (by simp) (by simp) ?_
      rw [put_app]
      simp [-List.append_assoc, -bytesE_append]
      refine xcall_of (rput_c (B ++ He.encT c.name ++ numE 4 c.table ++ numE 2 c.attr ++ numE 4 c.oid ++ numE 2 c.size) c.mod 4 (by simp only [List.length_append]; omega) _) (by simp) (by simp) ?_
      rw [put_app]
      simp [-List.append_assoc, -bytesE_append]
      refine xcall_of (rput_c (B ++ He.encT c.name ++ numE 4 c.table ++ numE 2 c.attr ++ numE 4 c.oid ++ numE 2 c.size ++ numE 4 c.mod) c.format 2 (by simp only [List.length_append]; omega) _) (by simp) (by simp) ?_
      rw [put_app]
      simp [hw, -List.append_assoc, -bytesE_append]
      refine ⟨j + 1, by omega, by omega, ?_⟩
      have e : putL [] l.length 2 ++ (l.take (j + 1)).flatMap colE = B ++ He.encT c.name ++ numE 4 c.table ++ numE 2 c.attr ++ numE 4 c.oid ++ numE 2 c.size ++ numE 4 c.mod ++ numE 2 c.format := by
        rw [hx, ← hB]; simp only [List.append_assoc]
      rw [e]
      simp [Leq, hh, -List.append_assoc, -bytesE_append]
    · have : j = l.length := by omega
      subst this
      simp [hh, listL]
theorem rbtold_c (l : List Fi) (hl : (fieldsE l).length ≤ 140737488351232) (hn : l.length ≤ 140737488355328) (hc : ∀ f ∈ l, 0 ≤ f.code ∧ f.code < 256) (h : List (List AV)) : Contract Try.prog 112 [.sl 2 (enc fiC l) none .no] h (.sl 1 (bytesE (fieldsE l)) none (.own .res)) h [] := by
  refine contract_of k112 mixed (by simp [c112]) fun hh hargs => ?_
  unfold fieldsE at hl
  rw [List.length_append, List.length_singleton] at hl
  simp [c112]
  refine xloop_ok (D := Nat) (fun j => ⟨[(0, .sl 2 (enc fiC l) none .no), (4, .v (.int .i64 j))], [(3, .sl 1 (bytesE ((l.take j).flatMap fieldE)) none (.own (.slot 3)))], h, []⟩) (fun j => j ≤ l.length) (fun j => l.length - j) 0 (by simp) ?_ ?_
  · simp [Leq, hh]
  · intro j hj
    by_cases hlt : j < l.length
    · have hw : IntKind.i64.wrap ((j : Int) + 1) = (j : Int) + 1 := wrap64 (by omega) (by omega)
      obtain ⟨hx, hb⟩ := flat_step fieldE l 1 j hlt 140737488351232 (by omega)
      have hc1 := hc l[j] (List.getElem_mem _)
      have hc3 : max l[j].code 0 % 256 = l[j].code := by omega
      obtain ⟨cd, tx, hlj⟩ : ∃ cd tx, l[j] = ⟨cd, tx⟩ := ⟨_, _, rfl⟩
      rw [hlj] at hx hb hc1 hc3
      have hfe : fieldE ⟨cd, tx⟩ = [UInt8.ofNat cd.toNat] ++ He.encT tx := by simp [fieldE, textsL]
      rw [hfe] at hx hb
      rw [List.length_append, List.length_singleton, encT_len] at hb
      replace hc3 : max cd 0 % 256 = cd := hc3
      generalize hB : (l.take j).flatMap fieldE = B at *
      simp [hlt, hlj, fiC_mk, -List.append_assoc]
      refine ⟨by omega, ?_⟩
      refine xcall_of (rstr_c (B ++ [UInt8.ofNat cd.toNat]) tx (by simp only [List.length_append, List.length_singleton]; omega) _) (by simp [hc3]) (by simp) ?_
      simp [hw, -List.append_assoc]
      refine ⟨j + 1, by omega, by omega, ?_⟩
      have e : bytesE ((l.take (j + 1)).flatMap fieldE) = bytesE (B ++ [UInt8.ofNat cd.toNat]) ++ bytesE (He.encT tx) := by rw [hx, ← bytesE_append, List.append_assoc]
      rw [e]
      simp [Leq, hh, hc3, -List.append_assoc]
    · have : j = l.length := by omega
      subst this
      simp [hh, fieldsE, -List.length_flatMap]
      omega
set_option maxHeartbeats 4000000 in
theorem rbencode_c (m : Bk) (hf : BkFit m) (hs : BkShort m) (ho : BkOk m) (hb : (bodyB m).length ≤ 140737488351232) (h : List (List AV)) : Contract Try.prog 87 [.agg (bkC m)] h (.tup [.agg (msC (rencB m).1), .v (.int .i64 (rencB m).2)]) h [] := by
  have hf0 := hf
  obtain ⟨q1, q2, q3, q4, q5⟩ := hf
  obtain ⟨o1, o2, o3, o4⟩ := ho
  refine contract_of k87 mixed (by simp [c87]) fun hh hargs => ?_
  simp [c87]
  refine xcall_self (by simp) (rbcheck_c m hf0 hs _) ?_
  by_cases he : rcheckB m = 0
  · have e0 : rencB m = (⟨m.kind, bodyB m⟩, 0) := if_pos he
    rw [e0]
    unfold bodyB at hb ⊢
    by_cases h82 : m.kind = 82
    · simp [he, h82]
      refine xcall_of (rput_c [] 0 4 (by simp) _) (by simp) (by simp) ?_
      simp [hh, msC_mk, h82, numE]
    rw [if_neg h82] at hb ⊢
    by_cases h83 : m.kind = 83
    · rw [if_pos h83] at hb
      have e : textsL [m.name, m.value] = He.encT m.name ++ He.encT m.value := by simp [textsL]
      rw [e, List.length_append, encT_len, encT_len] at hb
      simp [he, h83, -List.append_assoc]
      refine xcall_of (rstr_c [] m.name (by simp; omega) _) (by simp) (by simp) ?_
      simp
      refine xcall_of (rstr_c (He.encT m.name) m.value (by rw [encT_len]; omega) _) (by simp) (by simp) ?_
      simp [hh, msC_mk, h83, e]
    rw [if_neg h83] at hb ⊢
    by_cases h75 : m.kind = 75
    · have l1 := numE_len 4 m.n (by omega)
      simp [he, h75, -List.append_assoc]
      refine xcall_of (rput_c [] m.n 4 (by simp) _) (by simp) (by simp) ?_
      simp
      refine xcall_of (rput_c (numE 4 m.n) m.m 4 (by omega) _) (by simp [numE]) (by simp) ?_
      simp [hh, msC_mk, h75, put_app (numE 4 m.n) m.m 4]
    rw [if_neg h75] at hb ⊢
    by_cases h90 : m.kind = 90
    · have hw : max m.status 0 % 256 = m.status := by omega
      simp [he, h90, hh, hw, msC_mk]
    rw [if_neg h90] at hb ⊢
    by_cases h67 : m.kind = 67
    · rw [if_pos h67] at hb
      have e : textsL [m.tag] = He.encT m.tag := by simp [textsL]
      rw [e, encT_len] at hb
      simp [he, h67]
      refine xcall_of (rstr_c [] m.tag (by simp; omega) _) (by simp) (by simp) ?_
      simp [hh, msC_mk, h67, e]
    rw [if_neg h67] at hb ⊢
    by_cases h68 : m.kind = 68
    · rw [if_pos h68] at hb
      simp [he, h68]
      refine xcall_of (rputc_c [] m.row (by simpa using hb) q3 _) (by simp) (by simp) ?_
      simp [hh, msC_mk, h68]
    rw [if_neg h68] at hb ⊢
    by_cases h84 : m.kind = 84
    · rw [if_pos h84] at hb
      simp [he, h84]
      refine xcall_self (by simp) (rbdescribed_c m.cols hb q2 _) ?_
      simp [hh, msC_mk, h84]
    rw [if_neg h84] at hb ⊢
    by_cases h116 : m.kind = 116
    · rw [if_pos h116] at hb
      simp [he, h116]
      refine xcall_of (rlist_c [] m.oids 4 (by simpa using hb) q1 _) (by simp) (by simp) ?_
      simp [hh, msC_mk, h116]
    rw [if_neg h116] at hb ⊢
    by_cases h69 : m.kind = 69 ∨ m.kind = 78
    · rw [if_pos h69] at hb
      rcases h69 with h69 | h69
      all_goals
        simp [he, h69]
        refine xcall_self (by simp) (rbtold_c m.fields hb q4 o4 _) ?_
        simp [hh, msC_mk, h69]
    have h69' : ¬ m.kind = 69 := fun h => h69 (.inl h)
    have h78' : ¬ m.kind = 78 := fun h => h69 (.inr h)
    rw [if_neg h69]
    simp [he, h82, h83, h75, h90, h67, h68, h84, h116, h69', h78', hh, msC_mk]
  · simp [he, hh, rencB, msC_mk]

end Go.Proofs.Ytebggfghemblbaa.Ax
namespace Go.Proofs.Ytebggfghemblbaa.Ax
open Go.RowKit Go By Nm Sc Dg
open He (textL)
set_option linter.unusedSimpArgs false
set_option linter.unusedVariables false
set_option maxRecDepth 10000

/-! ### Messages' bytes -/
def mk3 (k : UInt8) (E X : List UInt8) : List UInt8 := [k] ++ E ++ X
theorem mk3_bytes (k : UInt8) (E X : List UInt8) : bytesE (mk3 k E X) = bytesE ([k] ++ E) ++ bytesE X := bytesE_append _ _
theorem mk3_cons (k : UInt8) (E X : List UInt8) : mk3 k E X = k :: (E ++ X) := by simp [mk3]
def msgE (m : Ms) : List UInt8 := mk3 (UInt8.ofNat m.type.toNat) (numE 4 ((m.body.length : Int) + 4)) m.body
theorem msgE_eq (m : Ms) : msgE m = mk3 (UInt8.ofNat m.type.toNat) (numE 4 ((m.body.length : Int) + 4)) m.body := by unfold msgE; exact Eq.refl _
theorem r4bytes_c (m : Ms) (ht : 0 < m.type ∧ m.type < 256) (hl : m.body.length ≤ 10000000) (h : List (List AV)) : Contract Try.prog 88 [.agg (msC m)] h (.sl 1 (bytesE (msgE m)) none (.own .res)) h [] := by
  have hw : IntKind.i64.wrap ((m.body.length : Int) + 4) = (m.body.length : Int) + 4 := wrap64 (by omega) (by omega)
  have hn := numE_len 4 ((m.body.length : Int) + 4) (by omega)
  have hk : max m.type 0 % 256 = m.type := by omega
  have h0 : ¬ m.type = 0 := by omega
  refine contract_of k88 mixed (by simp [c88]) fun hh hargs => ?_
  rw [msgE_eq, mk3_bytes]
  generalize hn' : (m.body.length : Int) + 4 = n at *
  generalize hE : bytesE ([UInt8.ofNat m.type.toNat] ++ numE 4 n) = E at *
  have hEl : E.length = 1 + (numE 4 n).length := by rw [← hE, bytesE_length, List.length_append, List.length_singleton]
  simp [c88, h0, hn', hw]
  refine xcall_of (rput_c [UInt8.ofNat m.type.toNat] n 4 (by simp) _) (by simp [hk]) (by simp) ?_
  rw [put_app [UInt8.ofNat m.type.toNat], hE]
  simp [hh, -List.append_assoc]
  exact ⟨by omega, by rw [← hE]; exact ltLL_bytes _ _⟩
theorem msgE_one {m : Bk} (he : checkB m = 0) : msgE ⟨m.kind, bodyB m⟩ = oneB m := by
  rw [oneB_ok he, msgE_eq, mk3_cons]
theorem kind_pos {k : Int} (h : kindB k = true) : 0 < k ∧ k < 256 := by
  unfold kindB at h
  have := of_decide_eq_true h
  omega
theorem rbbytes_c (l : List Bk) (hf : ∀ m ∈ l, BkFit m ∧ BkShort m ∧ BkOk m ∧ (bodyB m).length ≤ 10000000) (hl : (bytesB l).length ≤ 100000000) (hn : l.length ≤ 1000) (h : List (List AV)) : Contract Try.prog 58 [.sl 11 (enc bkC l) none .no] h (.sl 1 (bytesE (bytesB l)) none (.own .res)) h [] := by
  refine contract_of k58 mixed (by simp [c58]) fun hh hargs => ?_
  simp [c58]
  refine xloop_ok (D := Nat) (fun j => ⟨[(0, .sl 11 (enc bkC l) none .no), (4, .v (.int .i64 j))], [(3, .sl 1 (bytesE (bytesB (l.take j))) none (.own (.slot 3)))], h, []⟩) (fun j => j ≤ l.length) (fun j => l.length - j) 0 (by simp) ?_ ?_
  · simp [Leq, hh, bytesB]
  · intro j hj
    by_cases hlt : j < l.length
    · have hw : IntKind.i64.wrap ((j : Int) + 1) = (j : Int) + 1 := wrap64 (by omega) (by omega)
      obtain ⟨hx, hb⟩ := bb_step l (M := 100000000) hl j hlt
      obtain ⟨f1, f2, f3, f4⟩ := hf l[j] (List.getElem_mem _)
      simp [hlt]
      generalize l[j] = m at *
      refine xcall_self (by simp) (rbencode_c m f1 f2 f3 (by omega) _) ?_
      rw [← enc_eqB]
      by_cases he : checkB m = 0
      · rw [encB_ok he]
        have e1 := msgE_one he
        rw [← e1] at hx hb
        simp
        refine xcall_self (by simp) (r4bytes_c ⟨m.kind, bodyB m⟩ (kind_pos (checkB_kind he)) f4 _) ?_
        generalize msgE ⟨m.kind, bodyB m⟩ = X at *
        have hb2 : (bytesB (l.take j)).length + X.length ≤ 140737488355328 := by omega
        simp [hw, hb2, -List.append_assoc]
        refine ⟨j + 1, by omega, by omega, ?_⟩
        simp [Leq, hh, hx]
      · have e2 := oneB_no he
        rw [e2, List.append_nil] at hx
        rw [encB_no he]
        simp [he, hw]
        refine ⟨j + 1, by omega, by omega, ?_⟩
        simp [Leq, hh, hx]
    · have : j = l.length := by omega
      subst this
      simp [hh]
end Go.Proofs.Ytebggfghemblbaa.Ax
