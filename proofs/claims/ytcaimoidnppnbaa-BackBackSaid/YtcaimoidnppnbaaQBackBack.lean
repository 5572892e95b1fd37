/- Back's messages there and back. -/
import Derived.Test.YtcaimoidnppnbaaQAxWo
import Derived.Test.YtcaimoidnppnbaaQAxX
import Derived.Test.YtcaimoidnppnbaaRows
import Derived.Test.YtcaimoidnppnbaaQAxFm
import Derived.Test.YtcaimoidnppnbaaQAxBs
import Derived.Test.YtcaimoidnppnbaaQElems
import Derived.WalkKit
import Derived.ProofKit
import Derived.OpenShut
import Derived.ShutString
import Derived.ChangeOld
import Derived.Below
/- What reads as data of the types of package api is laid out as their structures are. Written by gen/ax_types.py. -/
namespace Go.Proofs.Ytcaimoidnppnbaa.Ax
open Go.RowKit Go By
set_option linter.unusedSimpArgs false
set_option linter.unusedVariables false

theorem i64_wf {n : Int} (h : (Lit.int .i64 n).wf = true) : -9223372036854775808 ≤ n ∧ n ≤ 9223372036854775807 := by
  simp [Lit.wf, IntKind.min, IntKind.max, IntKind.signed, IntKind.bits] at h
  omega
theorem sh_int : Shape Try.prog 3 (fun n : Int => [.v (.int .i64 n)]) (fun n => -9223372036854775808 ≤ n ∧ n ≤ 9223372036854775807) := Shape.map (shape_int Try.underlying3) id (fun _ => rfl) (fun _ => i64_wf)
theorem sh_u8 : Shape Try.prog 5 (fun n : Int => [.v (.int .u8 n)]) (fun n => 0 ≤ n ∧ n < 256) := Shape.map (shape_int Try.underlying5) id (fun _ => rfl) (fun _ => u8_of_wf)
theorem sh_bool : Shape Try.prog 4 (fun b : Bool => [.v (.bool b)]) (fun _ => True) := shape_bool Try.underlying4
theorem sh_str : Shape Try.prog 9 strC (fun s => s.length ≤ maxLen) := shape_str Try.underlying9
theorem sh_bytes : Shape Try.prog 22 (fun l : List UInt8 => [.sl 1 (bytesE l) none .no]) (fun l => l.length ≤ maxLen) := shape_bytes Try.underlying22 (by kernel_rfl) Try.underlying5
theorem sh_ints : Shape Try.prog 38 (fun l : List Int => [.sl 1 (enc intC l) none .no]) (fun l => l.length ≤ maxLen) := Shape.map (shape_slice Try.underlying38 (by kernel_rfl) (by decide) sh_int (fun _ => rfl)) id (fun _ => rfl) (fun _ h => h.1)
def OkCl (x : Cl) : Prop := True ∧ x.2.length ≤ maxLen
theorem sh_cellC : Shape Try.prog 87 cellC OkCl :=
  Shape.map (shape_struct Try.underlying87 (by kernel_rfl) (shape_cons (k := 1) rfl (by kernel_rfl) sh_bool (by kernel_rfl) (shape_one (k := 1) rfl (by kernel_rfl) sh_bytes))) (fun p => (p.1, p.2)) (fun _ => rfl) (fun _ h => h)
theorem sh_cellCL : Shape Try.prog 39 (fun l : List Cl => [.sl 2 (enc cellC l) none .no]) (fun l => l.length ≤ maxLen ∧ ∀ x ∈ l, OkCl x) := shape_slice Try.underlying39 (by kernel_rfl) (by decide) sh_cellC (fun _ => rfl)
def OkMs (x : Ms) : Prop := (0 ≤ x.type ∧ x.type < 256) ∧ x.body.length ≤ maxLen
theorem sh_msC : Shape Try.prog 44 msC OkMs :=
  Shape.map (shape_struct Try.underlying44 (by kernel_rfl) (shape_cons (k := 1) rfl (by kernel_rfl) sh_u8 (by kernel_rfl) (shape_one (k := 1) rfl (by kernel_rfl) sh_bytes))) (fun p => ⟨p.1, p.2⟩) (fun _ => rfl) (fun _ h => h)
def OkPa (x : Pa) : Prop := x.name.length ≤ maxLen ∧ x.value.length ≤ maxLen
theorem sh_paC : Shape Try.prog 70 paC OkPa :=
  Shape.map (shape_struct Try.underlying70 (by kernel_rfl) (shape_cons (k := 1) rfl (by kernel_rfl) sh_str (by kernel_rfl) (shape_one (k := 1) rfl (by kernel_rfl) sh_str))) (fun p => ⟨p.1, p.2⟩) (fun _ => rfl) (fun _ h => h)
theorem sh_paCL : Shape Try.prog 24 (fun l : List Pa => [.sl 2 (enc paC l) none .no]) (fun l => l.length ≤ maxLen ∧ ∀ x ∈ l, OkPa x) := shape_slice Try.underlying24 (by kernel_rfl) (by decide) sh_paC (fun _ => rfl)
def OkCo (x : Co) : Prop := x.name.length ≤ maxLen ∧ (-9223372036854775808 ≤ x.table ∧ x.table ≤ 9223372036854775807) ∧ (-9223372036854775808 ≤ x.attr ∧ x.attr ≤ 9223372036854775807) ∧ (-9223372036854775808 ≤ x.oid ∧ x.oid ≤ 9223372036854775807) ∧ (-9223372036854775808 ≤ x.size ∧ x.size ≤ 9223372036854775807) ∧ (-9223372036854775808 ≤ x.mod ∧ x.mod ≤ 9223372036854775807) ∧ (-9223372036854775808 ≤ x.format ∧ x.format ≤ 9223372036854775807)
theorem sh_coC : Shape Try.prog 113 coC OkCo :=
  Shape.map (shape_struct Try.underlying113 (by kernel_rfl) (shape_cons (k := 1) rfl (by kernel_rfl) sh_str (by kernel_rfl) (shape_cons (k := 1) rfl (by kernel_rfl) sh_int (by kernel_rfl) (shape_cons (k := 1) rfl (by kernel_rfl) sh_int (by kernel_rfl) (shape_cons (k := 1) rfl (by kernel_rfl) sh_int (by kernel_rfl) (shape_cons (k := 1) rfl (by kernel_rfl) sh_int (by kernel_rfl) (shape_cons (k := 1) rfl (by kernel_rfl) sh_int (by kernel_rfl) (shape_one (k := 1) rfl (by kernel_rfl) sh_int)))))))) (fun p => ⟨p.1, p.2.1, p.2.2.1, p.2.2.2.1, p.2.2.2.2.1, p.2.2.2.2.2.1, p.2.2.2.2.2.2⟩) (fun _ => rfl) (fun _ h => h)
theorem sh_coCL : Shape Try.prog 54 (fun l : List Co => [.sl 7 (enc coC l) none .no]) (fun l => l.length ≤ maxLen ∧ ∀ x ∈ l, OkCo x) := shape_slice Try.underlying54 (by kernel_rfl) (by decide) sh_coC (fun _ => rfl)
def OkFi (x : Fi) : Prop := (0 ≤ x.code ∧ x.code < 256) ∧ x.text.length ≤ maxLen
theorem sh_fiC : Shape Try.prog 117 fiC OkFi :=
  Shape.map (shape_struct Try.underlying117 (by kernel_rfl) (shape_cons (k := 1) rfl (by kernel_rfl) sh_u8 (by kernel_rfl) (shape_one (k := 1) rfl (by kernel_rfl) sh_str))) (fun p => ⟨p.1, p.2⟩) (fun _ => rfl) (fun _ h => h)
theorem sh_fiCL : Shape Try.prog 55 (fun l : List Fi => [.sl 2 (enc fiC l) none .no]) (fun l => l.length ≤ maxLen ∧ ∀ x ∈ l, OkFi x) := shape_slice Try.underlying55 (by kernel_rfl) (by decide) sh_fiC (fun _ => rfl)
def OkSm (x : Sm) : Prop := x.text.length ≤ maxLen ∧ x.oids.length ≤ maxLen
def OkHm (x : Hm) : Prop := (-9223372036854775808 ≤ x.code ∧ x.code ≤ 9223372036854775807) ∧ (-9223372036854775808 ≤ x.process ∧ x.process ≤ 9223372036854775807) ∧ (-9223372036854775808 ≤ x.secret ∧ x.secret ≤ 9223372036854775807) ∧ (x.params.length ≤ maxLen ∧ ∀ c ∈ x.params, OkPa c)
theorem sh_hmC : Shape Try.prog 26 hmC OkHm :=
  Shape.map (shape_struct Try.underlying26 (by kernel_rfl) (shape_cons (k := 1) rfl (by kernel_rfl) sh_int (by kernel_rfl) (shape_cons (k := 1) rfl (by kernel_rfl) sh_int (by kernel_rfl) (shape_cons (k := 1) rfl (by kernel_rfl) sh_int (by kernel_rfl) (shape_one (k := 1) rfl (by kernel_rfl) sh_paCL))))) (fun p => ⟨p.1, p.2.1, p.2.2.1, p.2.2.2⟩) (fun _ => rfl) (fun _ h => h)
def OkFm (x : Fm) : Prop := (0 ≤ x.kind ∧ x.kind < 256) ∧ (0 ≤ x.what ∧ x.what < 256) ∧ x.name.length ≤ maxLen ∧ x.portal.length ≤ maxLen ∧ x.text.length ≤ maxLen ∧ x.oids.length ≤ maxLen ∧ x.formats.length ≤ maxLen ∧ x.results.length ≤ maxLen ∧ (x.params.length ≤ maxLen ∧ ∀ c ∈ x.params, OkCl c) ∧ (-9223372036854775808 ≤ x.max ∧ x.max ≤ 9223372036854775807)
theorem sh_fmC : Shape Try.prog 41 fmC OkFm :=
  Shape.map (shape_struct Try.underlying41 (by kernel_rfl) (shape_cons (k := 1) rfl (by kernel_rfl) sh_u8 (by kernel_rfl) (shape_cons (k := 1) rfl (by kernel_rfl) sh_u8 (by kernel_rfl) (shape_cons (k := 1) rfl (by kernel_rfl) sh_str (by kernel_rfl) (shape_cons (k := 1) rfl (by kernel_rfl) sh_str (by kernel_rfl) (shape_cons (k := 1) rfl (by kernel_rfl) sh_str (by kernel_rfl) (shape_cons (k := 1) rfl (by kernel_rfl) sh_ints (by kernel_rfl) (shape_cons (k := 1) rfl (by kernel_rfl) sh_ints (by kernel_rfl) (shape_cons (k := 1) rfl (by kernel_rfl) sh_ints (by kernel_rfl) (shape_cons (k := 1) rfl (by kernel_rfl) sh_cellCL (by kernel_rfl) (shape_one (k := 1) rfl (by kernel_rfl) sh_int))))))))))) (fun p => ⟨p.1, p.2.1, p.2.2.1, p.2.2.2.1, p.2.2.2.2.1, p.2.2.2.2.2.1, p.2.2.2.2.2.2.1, p.2.2.2.2.2.2.2.1, p.2.2.2.2.2.2.2.2.1, p.2.2.2.2.2.2.2.2.2⟩) (fun _ => rfl) (fun _ h => h)
def OkBk (x : Bk) : Prop := (0 ≤ x.kind ∧ x.kind < 256) ∧ (0 ≤ x.status ∧ x.status < 256) ∧ x.tag.length ≤ maxLen ∧ x.name.length ≤ maxLen ∧ x.value.length ≤ maxLen ∧ (-9223372036854775808 ≤ x.n ∧ x.n ≤ 9223372036854775807) ∧ (-9223372036854775808 ≤ x.m ∧ x.m ≤ 9223372036854775807) ∧ x.oids.length ≤ maxLen ∧ (x.cols.length ≤ maxLen ∧ ∀ c ∈ x.cols, OkCo c) ∧ (x.row.length ≤ maxLen ∧ ∀ c ∈ x.row, OkCl c) ∧ (x.fields.length ≤ maxLen ∧ ∀ c ∈ x.fields, OkFi c)
theorem sh_bkC : Shape Try.prog 57 bkC OkBk :=
  Shape.map (shape_struct Try.underlying57 (by kernel_rfl) (shape_cons (k := 1) rfl (by kernel_rfl) sh_u8 (by kernel_rfl) (shape_cons (k := 1) rfl (by kernel_rfl) sh_u8 (by kernel_rfl) (shape_cons (k := 1) rfl (by kernel_rfl) sh_str (by kernel_rfl) (shape_cons (k := 1) rfl (by kernel_rfl) sh_str (by kernel_rfl) (shape_cons (k := 1) rfl (by kernel_rfl) sh_str (by kernel_rfl) (shape_cons (k := 1) rfl (by kernel_rfl) sh_int (by kernel_rfl) (shape_cons (k := 1) rfl (by kernel_rfl) sh_int (by kernel_rfl) (shape_cons (k := 1) rfl (by kernel_rfl) sh_ints (by kernel_rfl) (shape_cons (k := 1) rfl (by kernel_rfl) sh_coCL (by kernel_rfl) (shape_cons (k := 1) rfl (by kernel_rfl) sh_cellCL (by kernel_rfl) (shape_one (k := 1) rfl (by kernel_rfl) sh_fiCL)))))))))))) (fun p => ⟨p.1, p.2.1, p.2.2.1, p.2.2.2.1, p.2.2.2.2.1, p.2.2.2.2.2.1, p.2.2.2.2.2.2.1, p.2.2.2.2.2.2.2.1, p.2.2.2.2.2.2.2.2.1, p.2.2.2.2.2.2.2.2.2.1, p.2.2.2.2.2.2.2.2.2.2⟩) (fun _ => rfl) (fun _ h => h)
theorem sh_bkCL : Shape Try.prog 161 (fun l : List Bk => [.sl 11 (enc bkC l) none .no]) (fun l => l.length ≤ maxLen ∧ ∀ x ∈ l, OkBk x) := shape_slice Try.underlying161 (by kernel_rfl) (by decide) sh_bkC (fun _ => rfl)
def OkTo (x : To) : Prop := True ∧ x.name.length ≤ maxLen ∧ (-9223372036854775808 ≤ x.id ∧ x.id ≤ 9223372036854775807)
def OkOc (x : Oc) : Prop := (-9223372036854775808 ≤ x.kind ∧ x.kind ≤ 9223372036854775807) ∧ (-9223372036854775808 ≤ x.id ∧ x.id ≤ 9223372036854775807)
def OkEn (x : En) : Prop := (-9223372036854775808 ≤ x.kind ∧ x.kind ≤ 9223372036854775807) ∧ True ∧ x.from_.length ≤ maxLen ∧ x.to.length ≤ maxLen ∧ (x.good.length ≤ maxLen ∧ ∀ c ∈ x.good, OkTo c) ∧ (x.bad.length ≤ maxLen ∧ ∀ c ∈ x.bad, OkTo c) ∧ (x.cache.length ≤ maxLen ∧ ∀ c ∈ x.cache, OkOc c) ∧ x.reply.length ≤ maxLen
def OkVb (x : Vb) : Prop := (-9223372036854775808 ≤ x.kind ∧ x.kind ≤ 9223372036854775807) ∧ (-9223372036854775808 ≤ x.n ∧ x.n ≤ 9223372036854775807) ∧ x.code.length ≤ maxLen
def OkCf (x : Cf) : Prop := (-9223372036854775808 ≤ x.servers ∧ x.servers ≤ 9223372036854775807) ∧ (-9223372036854775808 ≤ x.cache ∧ x.cache ≤ 9223372036854775807) ∧ (-9223372036854775808 ≤ x.table ∧ x.table ≤ 9223372036854775807) ∧ (-9223372036854775808 ≤ x.message ∧ x.message ≤ 9223372036854775807) ∧ (-9223372036854775808 ≤ x.buffer ∧ x.buffer ≤ 9223372036854775807) ∧ (-9223372036854775808 ≤ x.queue ∧ x.queue ≤ 9223372036854775807) ∧ (x.params.length ≤ maxLen ∧ ∀ c ∈ x.params, OkPa c)
def OkEv (x : Ev) : Prop := (-9223372036854775808 ≤ x.kind ∧ x.kind ≤ 9223372036854775807) ∧ (-9223372036854775808 ≤ x.who ∧ x.who ≤ 9223372036854775807) ∧ (-9223372036854775808 ≤ x.n ∧ x.n ≤ 9223372036854775807) ∧ x.bytes.length ≤ maxLen
def OkSe (x : Se) : Prop := (-9223372036854775808 ≤ x.client ∧ x.client ≤ 9223372036854775807) ∧ (-9223372036854775808 ≤ x.index ∧ x.index ≤ 9223372036854775807) ∧ x.bytes.length ≤ maxLen
def OkCa (x : Ca) : Prop := (-9223372036854775808 ≤ x.client ∧ x.client ≤ 9223372036854775807) ∧ (-9223372036854775808 ≤ x.index ∧ x.index ≤ 9223372036854775807)
def OkNa (x : Na) : Prop := x.name.length ≤ maxLen ∧ (-9223372036854775808 ≤ x.id ∧ x.id ≤ 9223372036854775807)
def OkCn (x : Cn) : Prop := (-9223372036854775808 ≤ x.id ∧ x.id ≤ 9223372036854775807) ∧ (-9223372036854775808 ≤ x.refs ∧ x.refs ≤ 9223372036854775807)
def OkCv (x : Cv) : Prop := (-9223372036854775808 ≤ x.phase ∧ x.phase ≤ 9223372036854775807) ∧ (-9223372036854775808 ≤ x.server ∧ x.server ≤ 9223372036854775807) ∧ (-9223372036854775808 ≤ x.done ∧ x.done ≤ 9223372036854775807) ∧ (x.table.length ≤ maxLen ∧ ∀ c ∈ x.table, OkNa c)
def OkSv (x : Sv) : Prop := (-9223372036854775808 ≤ x.state ∧ x.state ≤ 9223372036854775807) ∧ (-9223372036854775808 ≤ x.holder ∧ x.holder ≤ 9223372036854775807) ∧ (-9223372036854775808 ≤ x.queue ∧ x.queue ≤ 9223372036854775807) ∧ (0 ≤ x.status ∧ x.status < 256) ∧ x.cache.length ≤ maxLen ∧ x.pending.length ≤ maxLen
def OkVw (x : Vw) : Prop := (x.clients.length ≤ maxLen ∧ ∀ c ∈ x.clients, OkCv c) ∧ (x.servers.length ≤ maxLen ∧ ∀ c ∈ x.servers, OkSv c) ∧ (x.registry.length ≤ maxLen ∧ ∀ c ∈ x.registry, OkCn c) ∧ x.waiting.length ≤ maxLen
end Go.Proofs.Ytcaimoidnppnbaa.Ax
/- The statements of layer 6 (front) as contracts. -/
namespace Go.Proofs.Ytcaimoidnppnbaa.Ax
open Go.RowKit Go By Nm Sc Dg
open He (textL)
set_option linter.unusedSimpArgs false
set_option linter.unusedVariables false
set_option maxRecDepth 10000

/-! ### Sizes -/
theorem textL_len (st : Sta) : (textL st).length ≤ He.lenS st := by
  unfold He.textL
  split
  · split
    · simp [He.lenS]; omega
    · simp
  · simp
theorem takeL_len (st : Sta) (n : Int) : (takeL st n).length ≤ He.lenS st := by
  unfold takeL
  split
  · split
    · simp [He.lenS]; omega
    · simp
  · simp
theorem cellV_len (st : Sta) : (cellV st).2.length ≤ He.lenS st := by
  rw [cellV_eq]
  split
  · simp
  · exact Nat.le_trans (takeL_len _ _) (numS_len _ _)
theorem readR_cells : ∀ (n : Nat) (st : Sta), ∀ c ∈ (readR cellV cellS n st).1, c.2.length ≤ He.lenS st
  | 0, _, c, h => by cases h
  | n + 1, st, c, h => by
    rw [readR] at h
    rcases List.mem_cons.1 h with rfl | h
    · exact cellV_len st
    · exact Nat.le_trans (readR_cells n _ c h) (cellS_len st)
theorem readU_cells : ∀ (n : Nat) (st : Sta), ∀ c ∈ readU cellV cellS n st, c.2.length ≤ He.lenS st
  | 0, _, c, h => by cases h
  | n + 1, st, c, h => by
    rw [readU] at h
    split at h
    · cases h
    · rcases List.mem_cons.1 h with rfl | h
      · exact cellV_len st
      · exact Nat.le_trans (readU_cells n _ c h) (cellS_len st)
theorem listV_len {α : Type} (v : Sta → α) (s : Sta → Sta) (st : Sta) : (listV v s st).length ≤ 65535 := by
  have := num2_range st
  rw [listV_eq]
  split
  · simp
  · rw [readR_len]; omega
theorem listU_len {α : Type} (v : Sta → α) (s : Sta → Sta) (st : Sta) : (listU v s st).length ≤ 65535 := by
  have := num2_range st
  have h := readU_len v s (numV st 2).toNat (numS st 2)
  unfold listU
  omega
theorem listV_cells (st : Sta) : ∀ c ∈ listV cellV cellS st, c.2.length ≤ He.lenS st := fun c hc => by
  rw [listV_eq] at hc
  split at hc
  · cases hc
  · exact Nat.le_trans (readR_cells _ _ c hc) (numS_len _ _)
theorem listU_cells (st : Sta) : ∀ c ∈ listU cellV cellS st, c.2.length ≤ He.lenS st := fun c hc => by
  exact Nat.le_trans (readU_cells _ _ c hc) (numS_len _ _)
theorem numbersS_len (size : Int) (st : Sta) : He.lenS (numbersS size st) ≤ He.lenS st := listS_len _ _ (fun st => numS_len st size) st
theorem fit_read {k : Int} {st : Sta} (hl : He.lenS st ≤ 2000) : FmFit (readV k st) ∧ (0 ≤ (readV k st).what ∧ (readV k st).what < 256) ∧ ∀ c ∈ (readV k st).params, c.2.length ≤ 2000 := by
  have t0 := textL_len st
  have s1 := He.textS_len st
  have t1 := textL_len (textS st)
  have n1 := numS_len st 1
  have t2 := textL_len (numS st 1)
  have s2 := He.textS_len (textS st)
  have s3 := numbersS_len 2 (textS (textS st))
  have r1 := num1_range st
  unfold readV
  repeat' split
  all_goals (unfold FmFit; dsimp only)
  all_goals refine ⟨⟨?_, ?_, ?_, ?_, ?_, ?_, ?_, ?_⟩, ?_, ?_⟩
  all_goals first
    | exact Nat.zero_le _
    | (intro c hc; cases hc; done)
    | (exact Nat.le_trans (listV_len _ _ _) (by omega))
    | (intro c hc; have := listV_cells _ c hc; omega)
    | omega
    | (simp; done)
theorem fit_rread {k : Int} {r : Rs} (hl : He.lenS (rabs r) ≤ 2000) : FmFit (rreadV k r) := by
  have t0 := textL_len (rabs r)
  have s1 := He.textS_len (rabs r)
  have t1 := textL_len (textS (rabs r))
  have n1 := numS_len (rabs r) 1
  have t2 := textL_len (numS (rabs r) 1)
  have s2 := He.textS_len (textS (rabs r))
  have s3 := numbersS_len 2 (textS (textS (rabs r)))
  unfold rreadV
  repeat' split
  all_goals (unfold FmFit; dsimp only)
  all_goals refine ⟨?_, ?_, ?_, ?_, ?_, ?_, ?_, ?_⟩
  all_goals first
    | exact Nat.zero_le _
    | (intro c hc; cases hc; done)
    | (exact Nat.le_trans (listU_len _ _ _) (by omega))
    | (intro c hc; have := listU_cells _ c hc; omega)
    | omega
    | (simp; done)
theorem noFm_fit : FmFit noFm := by unfold FmFit noFm; simp

/-! ### What Decode answers on both sides is one -/
theorem listU_V {α : Type} (v : Sta → α) (s : Sta → Sta) (hs : s none = none) {st : Sta} {r : List UInt8} (h : listS v s st = some r) : listU v s st = listV v s st := listU_eq v s hs st (by rw [h]; simp)
theorem rread_eq {k : Int} {xs : List UInt8} (h : readS k (some xs) = some []) : rreadV k (xs, false) = readV k (some xs) := by
  unfold readS at h
  unfold rreadV readV
  rw [rabs_false]
  by_cases h80 : k = 80
  · rw [if_pos h80] at h ⊢
    rw [if_pos h80]
    have e : numbersU 4 (textS (textS (some xs))) = numbersV 4 (textS (textS (some xs))) := listU_V _ _ rfl h
    rw [e]
  · rw [if_neg h80] at h ⊢
    rw [if_neg h80]
    by_cases h66 : k = 66
    · rw [if_pos h66] at h ⊢
      rw [if_pos h66]
      obtain ⟨ws, e4⟩ := some_of (numbersS_none 2) h
      obtain ⟨zs, e3⟩ := some_of cellsS_none e4
      have q1 : numbersU 2 (textS (textS (some xs))) = numbersV 2 (textS (textS (some xs))) := listU_V _ _ rfl e3
      have q2 : listU cellV cellS (numbersS 2 (textS (textS (some xs)))) = cellsV (numbersS 2 (textS (textS (some xs)))) := listU_V _ _ cellS_none e4
      have q3 : numbersU 2 (cellsS (numbersS 2 (textS (textS (some xs))))) = numbersV 2 (cellsS (numbersS 2 (textS (textS (some xs))))) := listU_V _ _ rfl h
      rw [q1, q2, q3]
    · rw [if_neg h66, if_neg h66]
theorem dec_eq {m : Ms} (hx : m.body.length ≤ 2000) : decF m = rdecF m := by
  rcases known_three m.type with k | k | k
  · have n2 : ¬ knownI m.type = 2 := by omega
    unfold decF rdecF
    rw [if_pos k, if_neg n2, if_pos k]
  · have n0 : ¬ knownI m.type = 0 := by omega
    have n2 : ¬ knownI m.type = 2 := by omega
    have e1 : decF m = if doneB (readS m.type (some m.body)) && whatB (readV m.type (some m.body)) then (readV m.type (some m.body), 0) else (noFm, 4) := by unfold decF; rw [if_neg n0, if_neg n2]
    have e2 : rdecF m = if doneB (readS m.type (some m.body)) && rcheckF (rreadV m.type (m.body, false)) == 0 then (rreadV m.type (m.body, false), 0) else (noFm, 4) := by unfold rdecF; rw [if_neg n2, if_neg n0]
    rw [e1, e2]
    cases hd : doneB (readS m.type (some m.body)) with
    | false => rfl
    | true =>
      have hs := done_nil hd
      rw [rread_eq hs, ← check_eq]
      cases hw : whatB (readV m.type (some m.body)) with
      | true =>
        obtain ⟨_, h2⟩ := read_back k (by omega) hs hw
        rw [h2]; rfl
      | false =>
        have : checkF (readV m.type (some m.body)) ≠ 0 := fun hc => by
          have := (check_ok hc).2.1; rw [hw] at this; cases this
        have e : (checkF (readV m.type (some m.body)) == 0) = false := by simpa using this
        rw [e]
  · have n0 : ¬ knownI m.type = 0 := by omega
    unfold decF rdecF
    rw [if_neg n0, if_pos k, if_pos k]
theorem dec_fit {m : Ms} (hx : m.body.length ≤ 2000) : FmFit (decF m).1 := by
  unfold decF
  repeat' split
  all_goals first | exact noFm_fit | exact (fit_read (st := some m.body) hx).1
theorem sameF_refl (a : Fm) : sameF a a = true := by rw [sameF_eq]; simp

/-! ### Messages that are short enough -/
def manyF (m : Fm) : Bool := decide (50 < (m.oids.length : Int)) || (decide (50 < (m.formats.length : Int)) || (decide (50 < (m.results.length : Int)) || decide (50 < (m.params.length : Int))))
def longC (c : Cl) : Bool := decide (300 < (c.2.length : Int))
def plainF (m : Fm) : Bool := !manyF m && (!m.params.any longC && (decide ((m.name.length : Int) ≤ 300) && (decide ((m.portal.length : Int) ≤ 300) && decide ((m.text.length : Int) ≤ 1000))))
theorem plain1_c (c : Cl) (h : List (List AV)) : Contract Try.prog 59 [.agg (cellC c)] h (.v (.bool (longC c))) h [] := by
  refine contract_of k59 mixed (by simp [c59]) fun hh hargs => ?_
  simp [c59, hh, longC]
theorem plain_c (m : Fm) (h : List (List AV)) : Contract Try.prog 21 [.agg (fmC m)] h (.v (.bool (plainF m))) h [] := by
  refine contract_cut (XCode.cuts [false, true] c21.code) k21 rfl mixed (by simp [c21]) fun hh hargs => ?_
  have plain_no : manyF m = true → plainF m = false := fun h => by unfold plainF; rw [h]; rfl
  have many_of : ∀ b, b = manyF m → b = true → plainF m = false := fun b h1 h2 => plain_no (h1 ▸ h2)
  simp [c21]
  by_cases hm : manyF m = true
  · rw [plain_no hm]
    refine xmark ?_
    unfold manyF at hm
    by_cases h1 : 50 < (m.oids.length : Int)
    · simp [h1, hh]
    by_cases h2 : 50 < (m.formats.length : Int)
    · simp [h1, h2, hh]
    by_cases h3 : 50 < (m.results.length : Int)
    · simp [h1, h2, h3, hh]
    by_cases h4 : 50 < (m.params.length : Int)
    · simp [h1, h2, h3, h4, hh]
    simp [h1, h2, h3, h4] at hm
  · have hm' : manyF m = false := by simpa using hm
    have hp : plainF m = (!m.params.any longC && (decide ((m.name.length : Int) ≤ 300) && (decide ((m.portal.length : Int) ≤ 300) && decide ((m.text.length : Int) ≤ 1000)))) := by unfold plainF; rw [hm']; rfl
    rw [hp]
    unfold manyF at hm'
    simp only [Bool.or_eq_false_iff, decide_eq_false_iff_not] at hm'
    obtain ⟨h1, h2, h3, h4⟩ := hm'
    refine xseq_cut ⟨[(1, .box h.length 0)], [], h ++ [fmC m], []⟩ ?_ ?_
    · simp [h1, h2, h3, h4, Leq, hh]
    · simp
      refine xcall_self (by simp) (containsN_any mixed k58 k111 cellC longC m.params [] _ (by simp) (by simp) (by simp) (fun c hm => plain1_c c _) (by omega)) ?_
      cases p1 : m.params.any longC with
      | true => simp [hh]
      | false =>
      simp
      by_cases p2 : (m.name.length : Int) ≤ 300
      · by_cases p3 : (m.portal.length : Int) ≤ 300
        · simp [p2, p3, hh]
        · simp [p2, p3, hh]
      · simp [p2, hh]
/-- Its size then. -/
theorem fit_of_plain {m : Fm} (h : plainF m = true) : FmFit m ∧ (∀ c ∈ m.params, c.2.length ≤ 300) ∧ (bodyF m).length ≤ 100000 := by
  unfold plainF manyF at h
  simp only [Bool.and_eq_true, Bool.not_eq_true', Bool.or_eq_false_iff, decide_eq_false_iff_not, decide_eq_true_eq] at h
  obtain ⟨⟨h1, h2, h3, h4⟩, h5, h6, h7, h8⟩ := h
  have hc : ∀ c ∈ m.params, c.2.length ≤ 300 := fun c hc => by
    have := List.any_eq_false.1 h5 c hc
    simp [longC] at this; omega
  refine ⟨⟨by omega, by omega, by omega, by omega, fun c h => by have := hc c h; omega, by omega, by omega, by omega⟩, hc, ?_⟩
  have numsL : ∀ (size : Int) (l : List Int), size ≤ 4 → l.length ≤ 50 → (listL (numE size) l).length ≤ 204 := fun size l hs hl => by
    have key : ∀ l : List Int, (l.flatMap (numE size)).length ≤ 4 * l.length := fun l => by
      induction l with
      | nil => simp
      | cons x l ih =>
        have := put_len x size hs []
        rw [List.flatMap_cons, List.length_append, List.length_cons]
        simp only [numE, List.length_nil] at this ⊢
        omega
    have := key l
    have := put_len (l.length : Int) 2 (by omega) []
    rw [listL_eq, List.length_append]
    simp only [List.length_nil] at this
    omega
  have cellsL : (listL cellE m.params).length ≤ 15204 := by
    have key : ∀ l : List Cl, (∀ c ∈ l, c.2.length ≤ 300) → (l.flatMap cellE).length ≤ 304 * l.length := fun l => by
      induction l with
      | nil => intro _; simp
      | cons x l ih =>
        intro hl
        have h1 := ih fun c hc => hl c (List.mem_cons_of_mem _ hc)
        have h2 := hl x (List.mem_cons_self ..)
        rw [List.flatMap_cons, List.length_append, List.length_cons]
        obtain ⟨n, b⟩ := x
        have h2' : b.length ≤ 300 := h2
        cases n with
        | true =>
          have := put_len 4294967295 4 (by omega) []
          rw [cellE_null]; simp only [List.length_nil] at this; omega
        | false =>
          have := put_len (b.length : Int) 4 (by omega) []
          rw [cellE_bytes, List.length_append]; simp only [List.length_nil] at this; omega
    have := key m.params hc
    have := put_len (m.params.length : Int) 2 (by omega) []
    rw [listL_eq, List.length_append]
    simp only [List.length_nil] at this
    omega
  have n1 := numsL 4 m.oids (by omega) (by omega)
  have n2 := numsL 2 m.formats (by omega) (by omega)
  have n3 := numsL 2 m.results (by omega) (by omega)
  have n4 := put_len m.max 4 (by omega) (textsL [m.portal])
  have t : ∀ (l : List UInt8), (He.encT l).length = l.length + 1 := encT_len
  unfold bodyF
  repeat' split
  all_goals simp only [textsL, List.flatMap_cons, List.flatMap_nil, List.length_append, List.length_cons, List.length_nil, t, List.append_nil] at n4 ⊢
  all_goals omega

/-! ### The statements -/
def aw : Fm := ⟨80, 0, [97], [], [98, 101, 103, 105, 110], [23], [], [], [], 0⟩
theorem aw_check : checkF aw = 0 := by decide
theorem aw_fit : FmFit aw := by unfold FmFit aw; simp
theorem aw_body : (bodyF aw).length ≤ 100000 := by decide
theorem dec_of_enc {m : Fm} (h : checkF m = 0) : encF m = (⟨m.kind, bodyF m⟩, 0) ∧ decF ⟨m.kind, bodyF m⟩ = (m, 0) := by
  obtain ⟨h1, h2, _⟩ := check_ok h
  obtain ⟨h3, h4⟩ := read_there h
  refine ⟨if_pos h, ?_⟩
  have n0 : ¬ knownI m.kind = 0 := by omega
  have n2 : ¬ knownI m.kind = 2 := by omega
  unfold decF
  rw [if_neg n0, if_neg n2]
  show (if doneB (readS m.kind (some (bodyF m))) && whatB (readV m.kind (some (bodyF m))) then (readV m.kind (some (bodyF m)), (0 : Int)) else (noFm, 4)) = (m, 0)
  rw [h3, h4, h2]; rfl
theorem awake_c (h : List (List AV)) : Contract Try.prog 22 [] h (.v (.bool true)) h [] := by
  refine contract_of k22 mixed (by simp [c22]) fun hh hargs => ?_
  obtain ⟨e1, e2⟩ := dec_of_enc aw_check
  simp [c22]
  refine xcall_of (fencode_c aw aw_fit (by decide) _ (Nat.le_trans aw_body (by omega)) (by decide)) (by simp [fmC_mk, aw, intC]) (by simp) ?_
  rw [e1]
  simp
  refine xcall_self (by simp) (fdecode_c ⟨aw.kind, bodyF aw⟩ (Nat.le_trans aw_body (by omega)) _) ?_
  rw [e2]
  have a1 : aw.name = [97] := rfl
  have a2 : aw.oids = [23] := rfl
  have k1 : knownI 83 = 1 := rfl
  have k2 : knownI 112 = 2 := rfl
  simp [a1, a2]
  refine xcall_self (by simp) (known_c 83 _) ?_
  rw [k1]
  simp
  refine xcall_self (by simp) (known_c 112 _) ?_
  rw [k2]
  simp [hh]
theorem encodes_c (f g : Fm) (hf : OkFm f) (hg : OkFm g) : Contract Try.prog 6 [.agg (fmC f), .agg (fmC g)] [] (.v (.bool true)) [] [] := by
  refine contract_cut (XCode.cuts [false, true] c6.code) k6 rfl mixed (by simp [c6]) fun hh hargs => ?_
  simp [c6]
  by_cases hp : plainF f = true ∧ plainF g = true
  · obtain ⟨pf, pg⟩ := hp
    obtain ⟨q1, q2, q3⟩ := fit_of_plain pf
    obtain ⟨r1, r2, r3⟩ := fit_of_plain pg
    refine xseq_cut ⟨[(2, .box 0 0), (3, .box 1 0)], [], [fmC f, fmC g], []⟩ ?_ ?_
    · simp
      refine xcall_self (by simp) (plain_c f _) ?_
      simp [pf]
      refine xcall_self (by simp) (plain_c g _) ?_
      simp [pg, Leq]
    · have hw : 0 ≤ f.what ∧ f.what < 256 := hf.2.1
      simp
      refine xcall_self (by simp) (fencode_c f q1 hw _ (by omega) (fun c hc => by have := q2 c hc; omega)) ?_
      simp
      refine xcall_self (by simp) (rencode_c f q1 hw _ (by omega)) ?_
      rw [← enc_eq]
      simp
      refine xcall_self (by simp) (equal_c _ _ _) ?_
      simp
      refine xcall_self (by simp) (fcheck_c f q1 _) ?_
      simp
      refine xcall_self (by simp) (rcheck_c f q1 _) ?_
      rw [← check_eq]
      simp
      refine xcall_self (by simp) (fsame_c f g q1 _) ?_
      simp
      refine xcall_self (by simp) (rsame_c f g q1 _) ?_
      simp
      refine xcall_self (by simp) (known_c _ _) ?_
      simp
      refine xcall_self (by simp) (rknown_c _ _) ?_
      simp
      refine xcall_self (by simp) (awake_c _) ?_
      simp
  · refine xmark ?_
    simp
    refine xcall_self (by simp) (plain_c f _) ?_
    cases pf : plainF f with
    | false =>
      simp
      refine xcall_self (by simp) (awake_c _) ?_
      simp
    | true =>
      have pg : plainF g = false := by cases h : plainF g with
        | false => rfl
        | true => exact absurd ⟨pf, h⟩ hp
      simp
      refine xcall_self (by simp) (plain_c g _) ?_
      simp [pg]
      refine xcall_self (by simp) (awake_c _) ?_
      simp
theorem decodes_c (m : Ms) : Contract Try.prog 7 [.agg (msC m)] [] (.v (.bool true)) [] [] := by
  refine contract_of k7 mixed (by simp [c7]) fun hh hargs => ?_
  by_cases hx : (2000 : Int) < m.body.length
  · simp [c7, hx]
    refine xcall_self (by simp) (awake_c _) ?_
    simp
  · have hx' : m.body.length ≤ 2000 := by omega
    simp [c7, hx]
    refine xcall_self (by simp) (fdecode_c m (by omega) _) ?_
    simp
    refine xcall_self (by simp) (rdecode_c m (by omega) (fit_rread hx') _) ?_
    rw [← dec_eq hx']
    simp
    refine xcall_self (by simp) (rsame_c _ _ (dec_fit hx') _) ?_
    rw [sameF_refl]
    simp
    refine xcall_self (by simp) (awake_c _) ?_
    simp
theorem dec_good {m : Ms} (h : (decF m).2 = 0) : knownI m.type = 1 ∧ readS m.type (some m.body) = some [] ∧ whatB (readV m.type (some m.body)) = true ∧ (decF m).1 = readV m.type (some m.body) := by
  rcases known_three m.type with k | k | k
  · unfold decF at h; rw [if_pos k] at h; cases h
  · have n0 : ¬ knownI m.type = 0 := by omega
    have n2 : ¬ knownI m.type = 2 := by omega
    have e1 : decF m = if doneB (readS m.type (some m.body)) && whatB (readV m.type (some m.body)) then (readV m.type (some m.body), 0) else (noFm, 4) := by unfold decF; rw [if_neg n0, if_neg n2]
    rw [e1] at h ⊢
    split at h
    · rename_i hc
      rw [Bool.and_eq_true] at hc
      rw [if_pos (by rw [Bool.and_eq_true]; exact hc)]
      exact ⟨k, done_nil hc.1, hc.2, rfl⟩
    · cases h
  · have n0 : ¬ knownI m.type = 0 := by omega
    unfold decF at h; rw [if_neg n0, if_pos k] at h; cases h
theorem dec_bad {m : Ms} (h : (decF m).2 ≠ 0) : (decF m).1 = noFm := by
  unfold decF at h ⊢
  repeat' split
  all_goals first
    | rfl
    | (exfalso; apply h; simp [*])
theorem readV_kind (k : Int) (st : Sta) : (readV k st).kind = k := by
  unfold readV
  repeat' split
  all_goals first | rfl | (rename_i h; exact h.symm) | (symm; assumption)
theorem back_c (f : Fm) (m : Ms) (hf : OkFm f) : Contract Try.prog 8 [.agg (fmC f), .agg (msC m)] [] (.v (.bool true)) [] [] := by
  refine contract_cut (XCode.cuts [false, true, true] c8.code) k8 rfl mixed (by simp [c8]) fun hh hargs => ?_
  simp [c8]
  by_cases hp : plainF f = true ∧ m.body.length ≤ 2000
  · obtain ⟨pf, hx⟩ := hp
    have hx' : ¬ (2000 : Int) < m.body.length := by omega
    obtain ⟨q1, q2, q3⟩ := fit_of_plain pf
    refine xseq_cut ⟨[(2, .box 0 0), (3, .box 1 0)], [], [fmC f, msC m], []⟩ ?_ ?_
    · simp
      refine xcall_self (by simp) (plain_c f _) ?_
      simp [pf, hx', Leq]
    refine xseq_cut ⟨[(2, .box 0 0), (3, .box 1 0)], [], [fmC f, msC m], []⟩ ?_ ?_
    · have hw : 0 ≤ f.what ∧ f.what < 256 := hf.2.1
      simp
      refine xcall_self (by simp) (fencode_c f q1 hw _ (by omega) (fun c hc => by have := q2 c hc; omega)) ?_
      by_cases he : checkF f = 0
      · obtain ⟨e1, e2⟩ := dec_of_enc he
        rw [e1]
        simp
        refine xcall_self (by simp) (fdecode_c ⟨f.kind, bodyF f⟩ (by show (bodyF f).length ≤ _; omega) _) ?_
        rw [e2]
        simp
        refine xcall_self (by simp) (fsame_c f f q1 _) ?_
        rw [sameF_refl]
        simp [Leq]
      · have e1 : (encF f).2 ≠ 0 := by unfold encF; rw [if_neg he]; exact he
        simp [e1, Leq]
    · obtain ⟨g1, g2, g3⟩ := fit_read (k := m.type) (st := some m.body) hx
      simp
      refine xcall_self (by simp) (fdecode_c m (by omega) _) ?_
      simp
      by_cases he : (decF m).2 = 0
      · obtain ⟨k1, k2, k3, k4⟩ := dec_good he
        obtain ⟨b1, b2⟩ := read_back k1 (by omega) k2 k3
        simp [he, k4]
        refine xcall_self (by simp) (fencode_c (readV m.type (some m.body)) g1 g2 _ (by rw [b1]; omega) (fun c hc => by have := g3 c hc; omega)) ?_
        have e3 : encF (readV m.type (some m.body)) = (⟨m.type, m.body⟩, 0) := by
          have := (dec_of_enc b2).1
          rw [this, b1, readV_kind]
        rw [e3]
        simp
        refine xcall_self (by simp) (equal_c _ _ _) ?_
        simp
        refine xcall_self (by simp) (awake_c _) ?_
        simp
      · simp [he]
        rw [dec_bad he]
        refine xcall_of (fsame_c noFm noFm noFm_fit _) (by simp [noFm, fmC_mk]) (by simp) ?_
        rw [sameF_refl]
        simp
        refine xcall_self (by simp) (awake_c _) ?_
        simp
  · refine xmark ?_
    simp
    refine xcall_self (by simp) (plain_c f _) ?_
    cases pf : plainF f with
    | false =>
      simp
      refine xcall_self (by simp) (awake_c _) ?_
      simp
    | true =>
      have hx : (2000 : Int) < m.body.length := by
        rcases Nat.lt_or_ge 2000 m.body.length with h | h
        · omega
        · exact absurd ⟨pf, h⟩ hp
      simp [hx]
      refine xcall_self (by simp) (awake_c _) ?_
      simp
end Go.Proofs.Ytcaimoidnppnbaa.Ax
/- The statements of layer 7 (back) as contracts. -/
namespace Go.Proofs.Ytcaimoidnppnbaa.Ax
open Go.RowKit Go By Nm Sc Dg
open He (textL)
set_option linter.unusedSimpArgs false
set_option linter.unusedVariables false
set_option maxRecDepth 10000

/-! ### Messages that are short enough -/
def manyB (m : Bk) : Bool := decide (50 < (m.oids.length : Int)) || (decide (50 < (m.cols.length : Int)) || (decide (50 < (m.row.length : Int)) || decide (50 < (m.fields.length : Int))))
def longCo (c : Co) : Bool := decide (300 < (c.name.length : Int))
def longFi (c : Fi) : Bool := decide (1000 < (c.text.length : Int))
def longB (m : Bk) : Bool := m.cols.any longCo || (m.row.any longC || m.fields.any longFi)
def plainB (m : Bk) : Bool := !manyB m && (!longB m && (decide ((m.tag.length : Int) ≤ 300) && (decide ((m.name.length : Int) ≤ 300) && decide ((m.value.length : Int) ≤ 300))))
theorem bplain1_c (c : Co) (h : List (List AV)) : Contract Try.prog 83 [.agg (coC c)] h (.v (.bool (longCo c))) h [] := by
  refine contract_of k83 mixed (by simp [c83]) fun hh hargs => ?_
  simp [c83, hh, longCo]
theorem bplain2_c (c : Cl) (h : List (List AV)) : Contract Try.prog 84 [.agg (cellC c)] h (.v (.bool (longC c))) h [] := by
  refine contract_of k84 mixed (by simp [c84]) fun hh hargs => ?_
  simp [c84, hh, longC]
theorem bplain3_c (c : Fi) (h : List (List AV)) : Contract Try.prog 86 [.agg (fiC c)] h (.v (.bool (longFi c))) h [] := by
  refine contract_of k86 mixed (by simp [c86]) fun hh hargs => ?_
  simp [c86, hh, longFi]
theorem bplain_c (m : Bk) (h : List (List AV)) : Contract Try.prog 33 [.agg (bkC m)] h (.v (.bool (plainB m))) h [] := by
  refine contract_cut (XCode.cuts [false, true] c33.code) k33 rfl mixed (by simp [c33]) fun hh hargs => ?_
  have plain_no : manyB m = true → plainB m = false := fun h => by unfold plainB; rw [h]; rfl
  simp [c33]
  by_cases hm : manyB m = true
  · rw [plain_no hm]
    refine xmark ?_
    unfold manyB at hm
    by_cases h1 : 50 < (m.oids.length : Int)
    · simp [h1, hh]
    by_cases h2 : 50 < (m.cols.length : Int)
    · simp [h1, h2, hh]
    by_cases h3 : 50 < (m.row.length : Int)
    · simp [h1, h2, h3, hh]
    by_cases h4 : 50 < (m.fields.length : Int)
    · simp [h1, h2, h3, h4, hh]
    simp [h1, h2, h3, h4] at hm
  · have hm' : manyB m = false := by simpa using hm
    have hp : plainB m = (!longB m && (decide ((m.tag.length : Int) ≤ 300) && (decide ((m.name.length : Int) ≤ 300) && decide ((m.value.length : Int) ≤ 300)))) := by unfold plainB; rw [hm']; rfl
    rw [hp]
    unfold manyB at hm'
    simp only [Bool.or_eq_false_iff, decide_eq_false_iff_not] at hm'
    obtain ⟨h1, h2, h3, h4⟩ := hm'
    unfold longB
    refine xseq_cut ⟨[(1, .box h.length 0)], [], h ++ [bkC m], []⟩ ?_ ?_
    · simp [h1, h2, h3, h4, Leq, hh]
    · simp
      refine xcall_self (by simp) (containsN_any mixed k82 k129 coC longCo m.cols [] _ (by simp) (by simp) (by simp) (fun c hm => bplain1_c c _) (by omega)) ?_
      cases p1 : m.cols.any longCo with
      | true => simp [hh]
      | false =>
      simp
      refine xcall_self (by simp) (containsN_any mixed k58 k111 cellC longC m.row [] _ (by simp) (by simp) (by simp) (fun c hm => bplain2_c c _) (by omega)) ?_
      cases p2 : m.row.any longC with
      | true => simp [hh]
      | false =>
      simp
      refine xcall_self (by simp) (containsN_any mixed k85 k130 fiC longFi m.fields [] _ (by simp) (by simp) (by simp) (fun c hm => bplain3_c c _) (by omega)) ?_
      cases p3 : m.fields.any longFi with
      | true => simp [hh]
      | false =>
      simp
      by_cases p4 : (m.tag.length : Int) ≤ 300
      · by_cases p5 : (m.name.length : Int) ≤ 300
        · simp [p4, p5, hh]
        · simp [p4, p5, hh]
      · simp [p4, hh]
theorem flat_le {α : Type} (e : α → List UInt8) (K : Nat) : ∀ l : List α, (∀ x ∈ l, (e x).length ≤ K) → (l.flatMap e).length ≤ K * l.length
  | [], _ => by simp
  | x :: l, hl => by
    have h1 := flat_le e K l fun c hc => hl c (List.mem_cons_of_mem _ hc)
    have h2 := hl x (List.mem_cons_self ..)
    rw [List.flatMap_cons, List.length_append, List.length_cons, Nat.mul_add, Nat.mul_one]
    omega
theorem listL_le {α : Type} (e : α → List UInt8) (K : Nat) (l : List α) (h : ∀ x ∈ l, (e x).length ≤ K) : (listL e l).length ≤ 4 + K * l.length := by
  have h1 := flat_le e K l h
  have h2 := put_len (l.length : Int) 2 (by omega) []
  rw [listL_eq, List.length_append]
  simp only [List.length_nil] at h2
  omega
/-- Its size then. -/
theorem fit_of_plainB {m : Bk} (hs : 0 ≤ m.status ∧ m.status < 256) (hf : ∀ f ∈ m.fields, FiOk f) (h : plainB m = true) : BkFit m ∧ BkOk m ∧ (bodyB m).length ≤ 100000 := by
  unfold plainB manyB longB at h
  simp only [Bool.and_eq_true, Bool.not_eq_true', Bool.or_eq_false_iff, decide_eq_false_iff_not, decide_eq_true_eq] at h
  obtain ⟨⟨h1, h2, h3, h4⟩, ⟨h5, h6, h7⟩, h8, h9, h10⟩ := h
  have hco : ∀ c ∈ m.cols, c.name.length ≤ 300 := fun c hc => by
    have := List.any_eq_false.1 h5 c hc
    simp [longCo] at this; omega
  have hcl : ∀ c ∈ m.row, c.2.length ≤ 300 := fun c hc => by
    have := List.any_eq_false.1 h6 c hc
    simp [longC] at this; omega
  have hfi : ∀ c ∈ m.fields, c.text.length ≤ 1000 := fun c hc => by
    have := List.any_eq_false.1 h7 c hc
    simp [longFi] at this; omega
  have t : ∀ (l : List UInt8), (He.encT l).length = l.length + 1 := encT_len
  refine ⟨⟨by omega, by omega, by omega, by omega, fun c h => by have := hcl c h; omega⟩, ⟨hs, fun c h => by have := hcl c h; omega, fun c h => by have := hco c h; omega, hf⟩, ?_⟩
  have c1 := listL_le cellE 304 m.row fun c hc => by
    have h2 := hcl c hc
    obtain ⟨n, b⟩ := c
    have h2' : b.length ≤ 300 := h2
    cases n with
    | true =>
      have := put_len 4294967295 4 (by omega) []
      rw [cellE_null]; simp only [List.length_nil] at this; omega
    | false =>
      have := put_len (b.length : Int) 4 (by omega) []
      rw [cellE_bytes, List.length_append]; simp only [List.length_nil] at this; omega
  have c2 := listL_le colE 325 m.cols fun c hc => by
    have h2 := hco c hc
    have l1 := numE_len 4 c.table (by omega)
    have l2 := numE_len 2 c.attr (by omega)
    have l3 := numE_len 4 c.oid (by omega)
    have l4 := numE_len 2 c.size (by omega)
    have l5 := numE_len 4 c.mod (by omega)
    have l6 := numE_len 2 c.format (by omega)
    unfold colE
    simp only [textsL_one, List.length_append, t]
    omega
  have c3 := listL_le (numE 4) 4 m.oids fun n _ => numE_len 4 n (by omega)
  have c4 : (fieldsE m.fields).length ≤ 1002 * m.fields.length + 1 := by
    have := flat_le fieldE 1002 m.fields fun f hf => by
      have := hfi f hf
      unfold fieldE
      simp only [textsL_one, List.length_cons, t]
      omega
    unfold fieldsE
    rw [List.length_append, List.length_singleton]
    omega
  have n1 := numE_len 4 m.n (by omega)
  have n2 := numE_len 4 m.m (by omega)
  have n3 := numE_len 4 0 (by omega)
  unfold bodyB
  repeat' split
  all_goals simp only [textsL, List.flatMap_cons, List.flatMap_nil, List.length_append, List.length_cons, List.length_nil, t, List.append_nil] at *
  all_goals omega
end Go.Proofs.Ytcaimoidnppnbaa.Ax
/- The statement of back there and back. -/
namespace Go.Proofs.Ytcaimoidnppnbaa.Ax
open Go.RowKit Go By Nm Sc Dg
open He (textL)
set_option linter.unusedSimpArgs false
set_option linter.unusedVariables false
set_option maxRecDepth 10000

def awB : Bk := ⟨90, 73, [], [], [], 0, 0, [], [], [], []⟩
theorem awB_check : checkB awB = 0 := by decide
theorem awB_fit : BkFit awB := by unfold BkFit awB; simp
theorem awB_ok : BkOk awB := by unfold BkOk awB; simp
theorem awB_body : (bodyB awB).length ≤ 100000 := by decide
theorem awB_bytes : bytesB [awB] = [90, 0, 0, 0, 5, 73] := by decide
theorem bawake_c (h : List (List AV)) : Contract Try.prog 34 [] h (.v (.bool true)) h [] := by
  refine contract_of k34 mixed (by simp [c34]) fun hh hargs => ?_
  have e2 := dec_enc awB_check (by intro f hf; cases hf)
  simp [c34]
  refine xcall_of (bencode_c awB awB_fit awB_ok (Nat.le_trans awB_body (by omega)) _) (by simp [bkC_mk, awB, intC]) (by simp) ?_
  have e1 := encB_ok awB_check
  rw [e1] at e2 ⊢
  simp only at e2
  simp
  refine xcall_self (by simp) (bdecode_c ⟨awB.kind, bodyB awB⟩ (Nat.le_trans awB_body (by omega)) _) ?_
  rw [e2]
  have a1 : awB.status = 73 := rfl
  simp [a1]
  refine xcall_of (bbytes_c [awB] (by intro m hm; rw [List.mem_singleton.1 hm]; exact ⟨awB_fit, awB_ok, Nat.le_trans awB_body (by omega)⟩) (by rw [awB_bytes]; simp) (by simp) _) (by simp) (by simp) ?_
  rw [awB_bytes]
  simp
  refine xcall_of (equal_c [90, 0, 0, 0, 5, 73] [90, 0, 0, 0, 5, 73] _) (by simp) (by simp) ?_
  simp [hh]
theorem noBk_fit : BkFit noBk := by unfold BkFit noBk; simp
theorem bback_c (f : Bk) (m : Ms) (hf : OkBk f) : Contract Try.prog 9 [.agg (bkC f), .agg (msC m)] [] (.v (.bool true)) [] [] := by
  refine contract_cut (XCode.cuts [false, true, true] c9.code) k9 rfl mixed (by simp [c9]) fun hh hargs => ?_
  simp [c9]
  by_cases hp : plainB f = true ∧ m.body.length ≤ 2000
  · obtain ⟨pf, hx⟩ := hp
    have hx' : ¬ (2000 : Int) < m.body.length := by omega
    have hfi : ∀ g ∈ f.fields, FiOk g := fun g hg => (hf.2.2.2.2.2.2.2.2.2.2.2 g hg).1
    obtain ⟨q1, q2, q3⟩ := fit_of_plainB hf.2.1 hfi pf
    refine xseq_cut ⟨[(2, .box 0 0), (3, .box 1 0)], [], [bkC f, msC m], []⟩ ?_ ?_
    · simp
      refine xcall_self (by simp) (bplain_c f _) ?_
      simp [pf, hx', Leq]
    refine xseq_cut ⟨[(2, .box 0 0), (3, .box 1 0)], [], [bkC f, msC m], []⟩ ?_ ?_
    · simp
      refine xcall_self (by simp) (bencode_c f q1 q2 (by omega) _) ?_
      by_cases he : checkB f = 0
      · have e2 := dec_enc he hfi
        rw [encB_ok he] at e2 ⊢
        simp only at e2
        simp
        refine xcall_self (by simp) (bdecode_c ⟨f.kind, bodyB f⟩ (by show (bodyB f).length ≤ _; omega) _) ?_
        rw [e2]
        simp
        refine xcall_self (by simp) (bsame_c f f q1 _) ?_
        rw [sameB_refl]
        simp [Leq]
      · rw [encB_no he]
        simp [he, Leq]
    · simp
      refine xcall_self (by simp) (bdecode_c m (by omega) _) ?_
      simp
      by_cases he : (decB m).2 = 0
      · obtain ⟨e3, g1, g2⟩ := enc_dec he (by omega)
        have hb : (bodyB (decB m).1).length ≤ 2000 := by
          obtain ⟨k1, k2, k3, k4⟩ := decB_parts he
          obtain ⟨b1, _⟩ := read_backB k1 (by omega) k3 k2
          rw [k4]
          show (bodyB (readB m.type (some m.body)).1).length ≤ 2000
          rw [b1]; exact hx
        simp [he]
        refine xcall_self (by simp) (bencode_c (decB m).1 g1 g2 (by omega) _) ?_
        rw [e3]
        simp
        refine xcall_self (by simp) (equal_c _ _ _) ?_
        simp
        refine xcall_self (by simp) (bawake_c _) ?_
        simp
      · simp [he]
        rw [decB_no he]
        refine xcall_of (bsame_c noBk noBk noBk_fit _) (by simp [noBk, bkC_mk]) (by simp) ?_
        rw [sameB_refl]
        simp
        refine xcall_self (by simp) (bawake_c _) ?_
        simp
  · refine xmark ?_
    simp
    refine xcall_self (by simp) (bplain_c f _) ?_
    cases pf : plainB f with
    | false =>
      simp
      refine xcall_self (by simp) (bawake_c _) ?_
      simp
    | true =>
      have hx : (2000 : Int) < m.body.length := by
        rcases Nat.lt_or_ge 2000 m.body.length with h | h
        · omega
        · exact absurd ⟨pf, h⟩ hp
      simp [hx]
      refine xcall_self (by simp) (bawake_c _) ?_
      simp
end Go.Proofs.Ytcaimoidnppnbaa.Ax
namespace Go.Proofs.Ytcaimoidnppnbaa.backBack
open Go.ChangeShapes Go.WideShapes Go.ChangeAt Go.RowKit
open Go.ChangeMaps (open_string shut_string)
set_option linter.unusedVariables false

theorem own : ownKnob Try.prog.godebug = none := by kernel_rfl
theorem laidOut : laidOutB Try.prog = true := by kernel_rfl

set_option maxRecDepth 100000 in
theorem lifted (os : Os) (started : os.Started) (H : Type) (enc : TypeId × Value → H) :
    ReturnsInHanded {} Try.checked os 9 .any (Rows.backBackSpec.pre6 enc Try.prog Try.f9 Rows.backBackRow.domain false) (Rows.backBackSpec.post enc Try.prog Try.f9 false true false false) := by
  refine returnsInHanded_of_change (C := Try.checked) own started (by kernel_rfl) Try.func9
    (ChangeSpec.witness6 (enc := enc) (C := Try.checked) false ⟨#[], #[.agg #[.int .u8 0, .int .u8 0, .string ByteArray.empty, .string ByteArray.empty, .string ByteArray.empty, .int .i64 0, .int .i64 0, .slice none 0 0, .slice none 0 0, .slice none 0 0, .slice none 0 0], .agg #[.int .u8 0, .slice none 0 0]], []⟩ 8 (by kernel_rfl) (by kernel_rfl) (by kernel_rfl) (by kernel_rfl)) ?_
  intro W base args ds gs before hval0 hW hcnd _
  have hval : ∀ (j : Nat) t v, Try.f9.params[j]? = some t → args[j]? = some v → Value.okWide Try.prog W .any base t v := hval0
  have hW' := hW
  obtain ⟨p, q, hA0, hV, rfl, hfz, hnd⟩ := hW
  have hA : DataW.TrodAll enc Try.prog W 0 (fun _ => true) true Try.f9.params.toList args.toList ds p := hA0
  rw [Try.params9] at hA hval
  obtain ⟨v0, vs0, d0, ds0, p0, q0, hargs, rfl, rfl, h0, r0⟩ := trodAll_cons hA
  obtain ⟨v1, vs1, d1, ds1, p1, q1, rfl, rfl, rfl, h1, r1⟩ := trodAll_cons r0
  obtain ⟨rfl, rfl, rfl⟩ := trodAll_nil r1
  obtain rfl : args = #[v0, v1] := by cases args; simp_all
  obtain ⟨rfl, rfl⟩ := trodVars_none hV
  have k0 := h0
  have lt0 : ∀ x ∈ p0, x.block < W.heap.size := by obtain ⟨m, hm⟩ := k0; exact DataW.trod_lt m _ _ _ hm
  obtain ⟨a0, ok0, s0⟩ := Ax.arg_struct Try.underlying57 Ax.sh_bkC (hval 0 57 v0 rfl rfl) h0
  have k1 := h1
  have lt1 : ∀ x ∈ p1, x.block < W.heap.size := by obtain ⟨m, hm⟩ := k1; exact DataW.trod_lt m _ _ _ hm
  obtain ⟨a1, ok1, s1⟩ := Ax.arg_struct Try.underlying44 Ax.sh_msC (hval 1 44 v1 rfl rfl) h1
  clear hA0 hval0
  refine (Ax.law_walk (w := W) (Ax.bback_c a0 a1 ok0) (by simp) (.cons s0 (.cons s1 .nil))).mono fun e W' ⟨he, bel⟩ => ?_
  subst he
  exact ⟨_, rfl, _, _, _, [], _, [], hW', trodAll_mk1 (shut_bool Try.underlying4 _), (trodAll_cons_mk (Below.trod laidOut (by kernel_rfl) (of_decide_eq_true (by kernel_rfl)) k0 bel lt0) (trodAll_cons_mk (Below.trod laidOut (by kernel_rfl) (of_decide_eq_true (by kernel_rfl)) k1 bel lt1) trodAll_mk0)), rfl, bel.frame _, fun h => by cases h⟩

theorem over : Rows.backBackRow.holds Try.pinned (OpenSpec.ofChange Rows.backBackSpec) :=
  OpenClaim.holds_of_wide 9 Try.f9 rfl rfl rfl rfl rfl rfl rfl ⟨rfl, rfl, rfl, rfl, rfl⟩ rfl rfl rfl rfl rfl (by kernel_rfl) Try.func9 (by kernel_rfl)
    (of_decide_eq_true (by kernel_rfl)) (by unfold Func.isWrapper; first | (rw [if_pos (by decide +kernel)]; kernel_rfl) | (rw [if_neg (by decide +kernel)]; exact ⟨rfl, rfl⟩))
    (fun os started H enc _ => lifted os started H enc)

theorem proved : Rows.BackBackSaid := over
#print axioms proved
end Go.Proofs.Ytcaimoidnppnbaa.backBack
