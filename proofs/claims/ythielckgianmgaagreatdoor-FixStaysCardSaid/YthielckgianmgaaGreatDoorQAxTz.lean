/- What reads as data of the types of package api is laid out as their structures are. Written by gen/ax_types.py. -/
import Derived.Test.YthielckgianmgaaGreatDoorQAxKc0
import Derived.Test.YthielckgianmgaaGreatDoorQAxHs
import Derived.Test.YthielckgianmgaaGreatDoorRows
namespace Go.Proofs.YthielckgianmgaaGreatDoor.Ax
open Go.RowKit Go By
set_option linter.unusedSimpArgs false
set_option linter.unusedVariables false

theorem i64_wf {n : Int} (h : (Lit.int .i64 n).wf = true) : -9223372036854775808 ≤ n ∧ n ≤ 9223372036854775807 := by
  simp [Lit.wf, IntKind.min, IntKind.max, IntKind.signed, IntKind.bits] at h
  omega
theorem sh_int : Shape Tryz.prog 3 (fun n : Int => [.v (.int .i64 n)]) (fun n => -9223372036854775808 ≤ n ∧ n ≤ 9223372036854775807) := Shape.map (shape_int Tryz.underlying3) id (fun _ => rfl) (fun _ => i64_wf)
theorem sh_u8 : Shape Tryz.prog 5 (fun n : Int => [.v (.int .u8 n)]) (fun n => 0 ≤ n ∧ n < 256) := Shape.map (shape_int Tryz.underlying5) id (fun _ => rfl) (fun _ => u8_of_wf)
theorem sh_bool : Shape Tryz.prog 4 (fun b : Bool => [.v (.bool b)]) (fun _ => True) := shape_bool Tryz.underlying4
theorem sh_str : Shape Tryz.prog 9 strC (fun s => s.length ≤ maxLen) := shape_str Tryz.underlying9
theorem sh_bytes : Shape Tryz.prog 24 (fun l : List UInt8 => [.sl 1 (bytesE l) none .no]) (fun l => l.length ≤ maxLen) := shape_bytes Tryz.underlying24 (by kernel_rfl) Tryz.underlying5
theorem sh_ints : Shape Tryz.prog 27 (fun l : List Int => [.sl 1 (enc intC l) none .no]) (fun l => l.length ≤ maxLen) := Shape.map (shape_slice Tryz.underlying27 (by kernel_rfl) (by decide) sh_int (fun _ => rfl)) id (fun _ => rfl) (fun _ h => h.1)
def OkCl (x : Cl) : Prop := True ∧ x.2.length ≤ maxLen
theorem sh_cellC : Shape Tryz.prog 56 cellC OkCl :=
  Shape.map (shape_struct Tryz.underlying56 (by kernel_rfl) (shape_cons (k := 1) rfl (by kernel_rfl) sh_bool (by kernel_rfl) (shape_one (k := 1) rfl (by kernel_rfl) sh_bytes))) (fun p => (p.1, p.2)) (fun _ => rfl) (fun _ h => h)
theorem sh_cellCL : Shape Tryz.prog 29 (fun l : List Cl => [.sl 2 (enc cellC l) none .no]) (fun l => l.length ≤ maxLen ∧ ∀ x ∈ l, OkCl x) := shape_slice Tryz.underlying29 (by kernel_rfl) (by decide) sh_cellC (fun _ => rfl)
def OkCo (x : Co) : Prop := x.name.length ≤ maxLen ∧ (-9223372036854775808 ≤ x.table ∧ x.table ≤ 9223372036854775807) ∧ (-9223372036854775808 ≤ x.attr ∧ x.attr ≤ 9223372036854775807) ∧ (-9223372036854775808 ≤ x.oid ∧ x.oid ≤ 9223372036854775807) ∧ (-9223372036854775808 ≤ x.size ∧ x.size ≤ 9223372036854775807) ∧ (-9223372036854775808 ≤ x.mod ∧ x.mod ≤ 9223372036854775807) ∧ (-9223372036854775808 ≤ x.format ∧ x.format ≤ 9223372036854775807)
theorem sh_coC : Shape Tryz.prog 52 coC OkCo :=
  Shape.map (shape_struct Tryz.underlying52 (by kernel_rfl) (shape_cons (k := 1) rfl (by kernel_rfl) sh_str (by kernel_rfl) (shape_cons (k := 1) rfl (by kernel_rfl) sh_int (by kernel_rfl) (shape_cons (k := 1) rfl (by kernel_rfl) sh_int (by kernel_rfl) (shape_cons (k := 1) rfl (by kernel_rfl) sh_int (by kernel_rfl) (shape_cons (k := 1) rfl (by kernel_rfl) sh_int (by kernel_rfl) (shape_cons (k := 1) rfl (by kernel_rfl) sh_int (by kernel_rfl) (shape_one (k := 1) rfl (by kernel_rfl) sh_int)))))))) (fun p => ⟨p.1, p.2.1, p.2.2.1, p.2.2.2.1, p.2.2.2.2.1, p.2.2.2.2.2.1, p.2.2.2.2.2.2⟩) (fun _ => rfl) (fun _ h => h)
theorem sh_coCL : Shape Tryz.prog 28 (fun l : List Co => [.sl 7 (enc coC l) none .no]) (fun l => l.length ≤ maxLen ∧ ∀ x ∈ l, OkCo x) := shape_slice Tryz.underlying28 (by kernel_rfl) (by decide) sh_coC (fun _ => rfl)
def OkFi (x : Fi) : Prop := (0 ≤ x.code ∧ x.code < 256) ∧ x.text.length ≤ maxLen
theorem sh_fiC : Shape Tryz.prog 60 fiC OkFi :=
  Shape.map (shape_struct Tryz.underlying60 (by kernel_rfl) (shape_cons (k := 1) rfl (by kernel_rfl) sh_u8 (by kernel_rfl) (shape_one (k := 1) rfl (by kernel_rfl) sh_str))) (fun p => ⟨p.1, p.2⟩) (fun _ => rfl) (fun _ h => h)
theorem sh_fiCL : Shape Tryz.prog 30 (fun l : List Fi => [.sl 2 (enc fiC l) none .no]) (fun l => l.length ≤ maxLen ∧ ∀ x ∈ l, OkFi x) := shape_slice Tryz.underlying30 (by kernel_rfl) (by decide) sh_fiC (fun _ => rfl)
def OkBk (x : Bk) : Prop := (0 ≤ x.kind ∧ x.kind < 256) ∧ (0 ≤ x.status ∧ x.status < 256) ∧ x.tag.length ≤ maxLen ∧ x.name.length ≤ maxLen ∧ x.value.length ≤ maxLen ∧ (-9223372036854775808 ≤ x.n ∧ x.n ≤ 9223372036854775807) ∧ (-9223372036854775808 ≤ x.m ∧ x.m ≤ 9223372036854775807) ∧ x.oids.length ≤ maxLen ∧ (x.cols.length ≤ maxLen ∧ ∀ c ∈ x.cols, OkCo c) ∧ (x.row.length ≤ maxLen ∧ ∀ c ∈ x.row, OkCl c) ∧ (x.fields.length ≤ maxLen ∧ ∀ c ∈ x.fields, OkFi c)
theorem sh_bkC : Shape Tryz.prog 32 bkC OkBk :=
  Shape.map (shape_struct Tryz.underlying32 (by kernel_rfl) (shape_cons (k := 1) rfl (by kernel_rfl) sh_u8 (by kernel_rfl) (shape_cons (k := 1) rfl (by kernel_rfl) sh_u8 (by kernel_rfl) (shape_cons (k := 1) rfl (by kernel_rfl) sh_str (by kernel_rfl) (shape_cons (k := 1) rfl (by kernel_rfl) sh_str (by kernel_rfl) (shape_cons (k := 1) rfl (by kernel_rfl) sh_str (by kernel_rfl) (shape_cons (k := 1) rfl (by kernel_rfl) sh_int (by kernel_rfl) (shape_cons (k := 1) rfl (by kernel_rfl) sh_int (by kernel_rfl) (shape_cons (k := 1) rfl (by kernel_rfl) sh_ints (by kernel_rfl) (shape_cons (k := 1) rfl (by kernel_rfl) sh_coCL (by kernel_rfl) (shape_cons (k := 1) rfl (by kernel_rfl) sh_cellCL (by kernel_rfl) (shape_one (k := 1) rfl (by kernel_rfl) sh_fiCL)))))))))))) (fun p => ⟨p.1, p.2.1, p.2.2.1, p.2.2.2.1, p.2.2.2.2.1, p.2.2.2.2.2.1, p.2.2.2.2.2.2.1, p.2.2.2.2.2.2.2.1, p.2.2.2.2.2.2.2.2.1, p.2.2.2.2.2.2.2.2.2.1, p.2.2.2.2.2.2.2.2.2.2⟩) (fun _ => rfl) (fun _ h => h)
def OkTo (x : To) : Prop := True ∧ x.name.length ≤ maxLen ∧ (-9223372036854775808 ≤ x.id ∧ x.id ≤ 9223372036854775807)
theorem sh_toC : Shape Tryz.prog 174 toC OkTo :=
  Shape.map (shape_struct Tryz.underlying174 (by kernel_rfl) (shape_cons (k := 1) rfl (by kernel_rfl) sh_bool (by kernel_rfl) (shape_cons (k := 1) rfl (by kernel_rfl) sh_str (by kernel_rfl) (shape_one (k := 1) rfl (by kernel_rfl) sh_int)))) (fun p => ⟨p.1, p.2.1, p.2.2⟩) (fun _ => rfl) (fun _ h => h)
theorem sh_toCL : Shape Tryz.prog 22 (fun l : List To => [.sl 3 (enc toC l) none .no]) (fun l => l.length ≤ maxLen ∧ ∀ x ∈ l, OkTo x) := shape_slice Tryz.underlying22 (by kernel_rfl) (by decide) sh_toC (fun _ => rfl)
def OkOc (x : Oc) : Prop := (-9223372036854775808 ≤ x.kind ∧ x.kind ≤ 9223372036854775807) ∧ (-9223372036854775808 ≤ x.id ∧ x.id ≤ 9223372036854775807)
theorem sh_ocC : Shape Tryz.prog 176 ocC OkOc :=
  Shape.map (shape_struct Tryz.underlying176 (by kernel_rfl) (shape_cons (k := 1) rfl (by kernel_rfl) sh_int (by kernel_rfl) (shape_one (k := 1) rfl (by kernel_rfl) sh_int))) (fun p => ⟨p.1, p.2⟩) (fun _ => rfl) (fun _ h => h)
theorem sh_ocCL : Shape Tryz.prog 23 (fun l : List Oc => [.sl 2 (enc ocC l) none .no]) (fun l => l.length ≤ maxLen ∧ ∀ x ∈ l, OkOc x) := shape_slice Tryz.underlying23 (by kernel_rfl) (by decide) sh_ocC (fun _ => rfl)
def OkEn (x : En) : Prop := (-9223372036854775808 ≤ x.kind ∧ x.kind ≤ 9223372036854775807) ∧ True ∧ x.from_.length ≤ maxLen ∧ x.to.length ≤ maxLen ∧ (x.good.length ≤ maxLen ∧ ∀ c ∈ x.good, OkTo c) ∧ (x.bad.length ≤ maxLen ∧ ∀ c ∈ x.bad, OkTo c) ∧ (x.cache.length ≤ maxLen ∧ ∀ c ∈ x.cache, OkOc c) ∧ x.reply.length ≤ maxLen
theorem sh_enC : Shape Tryz.prog 26 enC OkEn :=
  Shape.map (shape_struct Tryz.underlying26 (by kernel_rfl) (shape_cons (k := 1) rfl (by kernel_rfl) sh_int (by kernel_rfl) (shape_cons (k := 1) rfl (by kernel_rfl) sh_bool (by kernel_rfl) (shape_cons (k := 1) rfl (by kernel_rfl) sh_str (by kernel_rfl) (shape_cons (k := 1) rfl (by kernel_rfl) sh_str (by kernel_rfl) (shape_cons (k := 1) rfl (by kernel_rfl) sh_toCL (by kernel_rfl) (shape_cons (k := 1) rfl (by kernel_rfl) sh_toCL (by kernel_rfl) (shape_cons (k := 1) rfl (by kernel_rfl) sh_ocCL (by kernel_rfl) (shape_one (k := 1) rfl (by kernel_rfl) sh_bytes))))))))) (fun p => ⟨p.1, p.2.1, p.2.2.1, p.2.2.2.1, p.2.2.2.2.1, p.2.2.2.2.2.1, p.2.2.2.2.2.2.1, p.2.2.2.2.2.2.2⟩) (fun _ => rfl) (fun _ h => h)
end Go.Proofs.YthielckgianmgaaGreatDoor.Ax
