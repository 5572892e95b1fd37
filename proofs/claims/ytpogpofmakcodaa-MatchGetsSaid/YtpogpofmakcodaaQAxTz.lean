/- What reads as data of the types of package api is laid out as their structures are. Written by gen/ax_types.py. -/
import Derived.Test.YtpogpofmakcodaaQAxX
import Derived.Test.YtpogpofmakcodaaRows
/- The types of package api as Lean structures, and how they are laid out. No program is named here. Written by gen/ax_types.py. -/
namespace Go.Proofs.Ytpogpofmakcodaa.Ax
open Go.RowKit Go By
set_option linter.unusedSimpArgs false
set_option linter.unusedVariables false

abbrev Cl := Bool × List UInt8
def cellC (c : Cl) : List AV := [.v (.bool c.1), .sl 1 (bytesE c.2) none .no]
@[simp] theorem cellC_len (x : Cl) : (cellC x).length = 2 := of_eq_true (eq_self _)
@[simp] theorem cellC_unown (x : Cl) : (cellC x).map AV.unown = cellC x := of_eq_true (eq_self _)
@[simp] theorem cellC_g1 (x : Cl) (h : 1 < (cellC x).length) : (cellC x)[1] = .sl 1 (bytesE x.2) none .no := of_eq_true (eq_self _)
theorem cellC_mk (x : Cl) : cellC x = [.v (.bool x.1), .sl 1 (bytesE x.2) none .no] := rfl
@[simp] theorem cellC_lt (n : Nat) (x : Cl) : ltL n (cellC x) := by simp [cellC_mk]
@[simp] theorem ltLL_cellC (n : Nat) (l : List Cl) : ltLL n (enc cellC l) := ltLL_enc _ n (cellC_lt n) l
/-- api.Msg -/
structure Ms where
  type : Int
  body : List UInt8
  deriving DecidableEq
/-- api.Pair -/
structure Pa where
  name : List UInt8
  value : List UInt8
  deriving DecidableEq
/-- api.Col -/
structure Co where
  name : List UInt8
  table : Int
  attr : Int
  oid : Int
  size : Int
  mod : Int
  format : Int
  deriving DecidableEq
def coC (x : Co) : List AV := [.v (.string (strB x.name)), .v (.int .i64 x.table), .v (.int .i64 x.attr), .v (.int .i64 x.oid), .v (.int .i64 x.size), .v (.int .i64 x.mod), .v (.int .i64 x.format)]
@[simp] theorem coC_len (x : Co) : (coC x).length = 7 := of_eq_true (eq_self _)
@[simp] theorem coC_unown (x : Co) : (coC x).map AV.unown = coC x := of_eq_true (eq_self _)
@[simp] theorem coC_g0 (x : Co) (h : 0 < (coC x).length) : (coC x)[0] = .v (.string (strB x.name)) := of_eq_true (eq_self _)
theorem coC_mk (x : Co) : coC x = [.v (.string (strB x.name)), .v (.int .i64 x.table), .v (.int .i64 x.attr), .v (.int .i64 x.oid), .v (.int .i64 x.size), .v (.int .i64 x.mod), .v (.int .i64 x.format)] := rfl
@[simp] theorem coC_lt (n : Nat) (x : Co) : ltL n (coC x) := by simp [coC_mk]
@[simp] theorem ltLL_coC (n : Nat) (l : List Co) : ltLL n (enc coC l) := ltLL_enc _ n (coC_lt n) l
/-- api.Field -/
structure Fi where
  code : Int
  text : List UInt8
  deriving DecidableEq
def fiC (x : Fi) : List AV := [.v (.int .u8 x.code), .v (.string (strB x.text))]
@[simp] theorem fiC_len (x : Fi) : (fiC x).length = 2 := of_eq_true (eq_self _)
@[simp] theorem fiC_unown (x : Fi) : (fiC x).map AV.unown = fiC x := of_eq_true (eq_self _)
@[simp] theorem fiC_g1 (x : Fi) (h : 1 < (fiC x).length) : (fiC x)[1] = .v (.string (strB x.text)) := of_eq_true (eq_self _)
theorem fiC_mk (x : Fi) : fiC x = [.v (.int .u8 x.code), .v (.string (strB x.text))] := rfl
@[simp] theorem fiC_lt (n : Nat) (x : Fi) : ltL n (fiC x) := by simp [fiC_mk]
@[simp] theorem ltLL_fiC (n : Nat) (l : List Fi) : ltLL n (enc fiC l) := ltLL_enc _ n (fiC_lt n) l
/-- api.Stmt -/
structure Sm where
  text : List UInt8
  oids : List Int
  deriving DecidableEq
/-- api.Hello -/
structure Hm where
  code : Int
  process : Int
  secret : Int
  params : List Pa
  deriving DecidableEq
/-- api.Front -/
structure Fm where
  kind : Int
  what : Int
  name : List UInt8
  portal : List UInt8
  text : List UInt8
  oids : List Int
  formats : List Int
  results : List Int
  params : List Cl
  max : Int
  deriving DecidableEq
/-- api.Back -/
structure Bk where
  kind : Int
  status : Int
  tag : List UInt8
  name : List UInt8
  value : List UInt8
  n : Int
  m : Int
  oids : List Int
  cols : List Co
  row : List Cl
  fields : List Fi
  deriving DecidableEq
def bkC (x : Bk) : List AV := [.v (.int .u8 x.kind), .v (.int .u8 x.status), .v (.string (strB x.tag)), .v (.string (strB x.name)), .v (.string (strB x.value)), .v (.int .i64 x.n), .v (.int .i64 x.m), .sl 1 (enc intC x.oids) none .no, .sl 7 (enc coC x.cols) none .no, .sl 2 (enc cellC x.row) none .no, .sl 2 (enc fiC x.fields) none .no]
@[simp] theorem bkC_len (x : Bk) : (bkC x).length = 11 := of_eq_true (eq_self _)
@[simp] theorem bkC_unown (x : Bk) : (bkC x).map AV.unown = bkC x := of_eq_true (eq_self _)
@[simp] theorem bkC_take (x : Bk) : List.take 11 (bkC x) = bkC x := of_eq_true (eq_self _)
@[simp] theorem bkC_g0 (x : Bk) (h : 0 < (bkC x).length) : (bkC x)[0] = .v (.int .u8 x.kind) := of_eq_true (eq_self _)
@[simp] theorem bkC_g1 (x : Bk) (h : 1 < (bkC x).length) : (bkC x)[1] = .v (.int .u8 x.status) := of_eq_true (eq_self _)
@[simp] theorem bkC_g2 (x : Bk) (h : 2 < (bkC x).length) : (bkC x)[2] = .v (.string (strB x.tag)) := of_eq_true (eq_self _)
@[simp] theorem bkC_g3 (x : Bk) (h : 3 < (bkC x).length) : (bkC x)[3] = .v (.string (strB x.name)) := of_eq_true (eq_self _)
@[simp] theorem bkC_g4 (x : Bk) (h : 4 < (bkC x).length) : (bkC x)[4] = .v (.string (strB x.value)) := of_eq_true (eq_self _)
@[simp] theorem bkC_g7 (x : Bk) (h : 7 < (bkC x).length) : (bkC x)[7] = .sl 1 (enc intC x.oids) none .no := of_eq_true (eq_self _)
@[simp] theorem bkC_g8 (x : Bk) (h : 8 < (bkC x).length) : (bkC x)[8] = .sl 7 (enc coC x.cols) none .no := of_eq_true (eq_self _)
@[simp] theorem bkC_g9 (x : Bk) (h : 9 < (bkC x).length) : (bkC x)[9] = .sl 2 (enc cellC x.row) none .no := of_eq_true (eq_self _)
@[simp] theorem bkC_g10 (x : Bk) (h : 10 < (bkC x).length) : (bkC x)[10] = .sl 2 (enc fiC x.fields) none .no := of_eq_true (eq_self _)
theorem bkC_mk (x : Bk) : bkC x = [.v (.int .u8 x.kind), .v (.int .u8 x.status), .v (.string (strB x.tag)), .v (.string (strB x.name)), .v (.string (strB x.value)), .v (.int .i64 x.n), .v (.int .i64 x.m), .sl 1 (enc intC x.oids) none .no, .sl 7 (enc coC x.cols) none .no, .sl 2 (enc cellC x.row) none .no, .sl 2 (enc fiC x.fields) none .no] := rfl
@[simp] theorem bkC_lt (n : Nat) (x : Bk) : ltL n (bkC x) := by simp [bkC_mk]
@[simp] theorem ltLL_bkC (n : Nat) (l : List Bk) : ltLL n (enc bkC l) := ltLL_enc _ n (bkC_lt n) l
/-- api.TableOp -/
structure To where
  set : Bool
  name : List UInt8
  id : Int
  deriving DecidableEq
def toC (x : To) : List AV := [.v (.bool x.set), .v (.string (strB x.name)), .v (.int .i64 x.id)]
theorem toC_mk (x : To) : toC x = [.v (.bool x.set), .v (.string (strB x.name)), .v (.int .i64 x.id)] := rfl
@[simp] theorem toC_lt (n : Nat) (x : To) : ltL n (toC x) := by simp [toC_mk]
@[simp] theorem ltLL_toC (n : Nat) (l : List To) : ltLL n (enc toC l) := ltLL_enc _ n (toC_lt n) l
/-- api.CacheOp -/
structure Oc where
  kind : Int
  id : Int
  deriving DecidableEq
def ocC (x : Oc) : List AV := [.v (.int .i64 x.kind), .v (.int .i64 x.id)]
theorem ocC_mk (x : Oc) : ocC x = [.v (.int .i64 x.kind), .v (.int .i64 x.id)] := rfl
@[simp] theorem ocC_lt (n : Nat) (x : Oc) : ltL n (ocC x) := by simp [ocC_mk]
@[simp] theorem ltLL_ocC (n : Nat) (l : List Oc) : ltLL n (enc ocC l) := ltLL_enc _ n (ocC_lt n) l
/-- api.Entry -/
structure En where
  kind : Int
  hide : Bool
  from_ : List UInt8
  to : List UInt8
  good : List To
  bad : List To
  cache : List Oc
  reply : List UInt8
  deriving DecidableEq
def enC (x : En) : List AV := [.v (.int .i64 x.kind), .v (.bool x.hide), .v (.string (strB x.from_)), .v (.string (strB x.to)), .sl 3 (enc toC x.good) none .no, .sl 3 (enc toC x.bad) none .no, .sl 2 (enc ocC x.cache) none .no, .sl 1 (bytesE x.reply) none .no]
@[simp] theorem enC_len (x : En) : (enC x).length = 8 := of_eq_true (eq_self _)
@[simp] theorem enC_unown (x : En) : (enC x).map AV.unown = enC x := of_eq_true (eq_self _)
@[simp] theorem enC_take (x : En) : List.take 8 (enC x) = enC x := of_eq_true (eq_self _)
@[simp] theorem enC_0 (x : En) : (enC x)[0]? = some (.v (.int .i64 x.kind)) := of_eq_true (eq_self _)
@[simp] theorem enC_g0 (x : En) (h : 0 < (enC x).length) : (enC x)[0] = .v (.int .i64 x.kind) := of_eq_true (eq_self _)
@[simp] theorem enC_1 (x : En) : (enC x)[1]? = some (.v (.bool x.hide)) := of_eq_true (eq_self _)
@[simp] theorem enC_g1 (x : En) (h : 1 < (enC x).length) : (enC x)[1] = .v (.bool x.hide) := of_eq_true (eq_self _)
@[simp] theorem enC_g2 (x : En) (h : 2 < (enC x).length) : (enC x)[2] = .v (.string (strB x.from_)) := of_eq_true (eq_self _)
@[simp] theorem enC_g3 (x : En) (h : 3 < (enC x).length) : (enC x)[3] = .v (.string (strB x.to)) := of_eq_true (eq_self _)
@[simp] theorem enC_g4 (x : En) (h : 4 < (enC x).length) : (enC x)[4] = .sl 3 (enc toC x.good) none .no := of_eq_true (eq_self _)
@[simp] theorem enC_g5 (x : En) (h : 5 < (enC x).length) : (enC x)[5] = .sl 3 (enc toC x.bad) none .no := of_eq_true (eq_self _)
@[simp] theorem enC_g6 (x : En) (h : 6 < (enC x).length) : (enC x)[6] = .sl 2 (enc ocC x.cache) none .no := of_eq_true (eq_self _)
@[simp] theorem enC_g7 (x : En) (h : 7 < (enC x).length) : (enC x)[7] = .sl 1 (bytesE x.reply) none .no := of_eq_true (eq_self _)
theorem enC_mk (x : En) : enC x = [.v (.int .i64 x.kind), .v (.bool x.hide), .v (.string (strB x.from_)), .v (.string (strB x.to)), .sl 3 (enc toC x.good) none .no, .sl 3 (enc toC x.bad) none .no, .sl 2 (enc ocC x.cache) none .no, .sl 1 (bytesE x.reply) none .no] := rfl
@[simp] theorem enC_lt (n : Nat) (x : En) : ltL n (enC x) := by simp [enC_mk]
@[simp] theorem ltLL_enC (n : Nat) (l : List En) : ltLL n (enc enC l) := ltLL_enc _ n (enC_lt n) l
@[simp] theorem enC_id (x : En) : ∀ y ∈ enC x, y.idOf = none := by simp [enC_mk]
/-- api.Verb -/
structure Vb where
  kind : Int
  n : Int
  code : List UInt8
  deriving DecidableEq
/-- api.Config -/
structure Cf where
  servers : Int
  cache : Int
  table : Int
  message : Int
  buffer : Int
  queue : Int
  params : List Pa
  deriving DecidableEq
/-- api.Event -/
structure Ev where
  kind : Int
  who : Int
  n : Int
  bytes : List UInt8
  deriving DecidableEq
/-- api.Sent -/
structure Se where
  client : Int
  index : Int
  bytes : List UInt8
  deriving DecidableEq
/-- api.Call -/
structure Ca where
  client : Int
  index : Int
  deriving DecidableEq
/-- api.Named -/
structure Na where
  name : List UInt8
  id : Int
  deriving DecidableEq
/-- api.Counted -/
structure Cn where
  id : Int
  refs : Int
  deriving DecidableEq
/-- api.ClientView -/
structure Cv where
  phase : Int
  server : Int
  done : Int
  table : List Na
  deriving DecidableEq
/-- api.ServerView -/
structure Sv where
  state : Int
  holder : Int
  queue : Int
  status : Int
  cache : List Int
  pending : List Int
  deriving DecidableEq
/-- api.View -/
structure Vw where
  clients : List Cv
  servers : List Sv
  registry : List Cn
  waiting : List Int
  deriving DecidableEq
end Go.Proofs.Ytpogpofmakcodaa.Ax
namespace Go.Proofs.Ytpogpofmakcodaa.Ax
open Go.RowKit Go By
set_option linter.unusedSimpArgs false
set_option linter.unusedVariables false

theorem i64_wf {n : Int} (h : (Lit.int .i64 n).wf = true) : -9223372036854775808 ≤ n ∧ n ≤ 9223372036854775807 := by
  simp [Lit.wf, IntKind.min, IntKind.max, IntKind.signed, IntKind.bits] at h
  omega
theorem sh_int : Shape Try.prog 3 (fun n : Int => [.v (.int .i64 n)]) (fun n => -9223372036854775808 ≤ n ∧ n ≤ 9223372036854775807) := Shape.map (shape_int Try.underlying3) id (fun _ => rfl) (fun _ => i64_wf)
theorem sh_u8 : Shape Try.prog 5 (fun n : Int => [.v (.int .u8 n)]) (fun n => 0 ≤ n ∧ n < 256) := Shape.map (shape_int Try.underlying5) id (fun _ => rfl) (fun _ => u8_of_wf)
theorem sh_bool : Shape Try.prog 4 (fun b : Bool => [.v (.bool b)]) (fun _ => True) := shape_bool Try.underlying4
theorem sh_str : Shape Try.prog 9 strC (fun s => s.length ≤ maxLen) := shape_str Try.underlying9
theorem sh_bytes : Shape Try.prog 39 (fun l : List UInt8 => [.sl 1 (bytesE l) none .no]) (fun l => l.length ≤ maxLen) := shape_bytes Try.underlying39 (by kernel_rfl) Try.underlying5
theorem sh_ints : Shape Try.prog 48 (fun l : List Int => [.sl 1 (enc intC l) none .no]) (fun l => l.length ≤ maxLen) := Shape.map (shape_slice Try.underlying48 (by kernel_rfl) (by decide) sh_int (fun _ => rfl)) id (fun _ => rfl) (fun _ h => h.1)
def OkCl (x : Cl) : Prop := True ∧ x.2.length ≤ maxLen
theorem sh_cellC : Shape Try.prog 104 cellC OkCl :=
  Shape.map (shape_struct Try.underlying104 (by kernel_rfl) (shape_cons (k := 1) rfl (by kernel_rfl) sh_bool (by kernel_rfl) (shape_one (k := 1) rfl (by kernel_rfl) sh_bytes))) (fun p => (p.1, p.2)) (fun _ => rfl) (fun _ h => h)
theorem sh_cellCL : Shape Try.prog 66 (fun l : List Cl => [.sl 2 (enc cellC l) none .no]) (fun l => l.length ≤ maxLen ∧ ∀ x ∈ l, OkCl x) := shape_slice Try.underlying66 (by kernel_rfl) (by decide) sh_cellC (fun _ => rfl)
def OkCo (x : Co) : Prop := x.name.length ≤ maxLen ∧ (-9223372036854775808 ≤ x.table ∧ x.table ≤ 9223372036854775807) ∧ (-9223372036854775808 ≤ x.attr ∧ x.attr ≤ 9223372036854775807) ∧ (-9223372036854775808 ≤ x.oid ∧ x.oid ≤ 9223372036854775807) ∧ (-9223372036854775808 ≤ x.size ∧ x.size ≤ 9223372036854775807) ∧ (-9223372036854775808 ≤ x.mod ∧ x.mod ≤ 9223372036854775807) ∧ (-9223372036854775808 ≤ x.format ∧ x.format ≤ 9223372036854775807)
theorem sh_coC : Shape Try.prog 100 coC OkCo :=
  Shape.map (shape_struct Try.underlying100 (by kernel_rfl) (shape_cons (k := 1) rfl (by kernel_rfl) sh_str (by kernel_rfl) (shape_cons (k := 1) rfl (by kernel_rfl) sh_int (by kernel_rfl) (shape_cons (k := 1) rfl (by kernel_rfl) sh_int (by kernel_rfl) (shape_cons (k := 1) rfl (by kernel_rfl) sh_int (by kernel_rfl) (shape_cons (k := 1) rfl (by kernel_rfl) sh_int (by kernel_rfl) (shape_cons (k := 1) rfl (by kernel_rfl) sh_int (by kernel_rfl) (shape_one (k := 1) rfl (by kernel_rfl) sh_int)))))))) (fun p => ⟨p.1, p.2.1, p.2.2.1, p.2.2.2.1, p.2.2.2.2.1, p.2.2.2.2.2.1, p.2.2.2.2.2.2⟩) (fun _ => rfl) (fun _ h => h)
theorem sh_coCL : Shape Try.prog 65 (fun l : List Co => [.sl 7 (enc coC l) none .no]) (fun l => l.length ≤ maxLen ∧ ∀ x ∈ l, OkCo x) := shape_slice Try.underlying65 (by kernel_rfl) (by decide) sh_coC (fun _ => rfl)
def OkFi (x : Fi) : Prop := (0 ≤ x.code ∧ x.code < 256) ∧ x.text.length ≤ maxLen
theorem sh_fiC : Shape Try.prog 108 fiC OkFi :=
  Shape.map (shape_struct Try.underlying108 (by kernel_rfl) (shape_cons (k := 1) rfl (by kernel_rfl) sh_u8 (by kernel_rfl) (shape_one (k := 1) rfl (by kernel_rfl) sh_str))) (fun p => ⟨p.1, p.2⟩) (fun _ => rfl) (fun _ h => h)
theorem sh_fiCL : Shape Try.prog 67 (fun l : List Fi => [.sl 2 (enc fiC l) none .no]) (fun l => l.length ≤ maxLen ∧ ∀ x ∈ l, OkFi x) := shape_slice Try.underlying67 (by kernel_rfl) (by decide) sh_fiC (fun _ => rfl)
def OkBk (x : Bk) : Prop := (0 ≤ x.kind ∧ x.kind < 256) ∧ (0 ≤ x.status ∧ x.status < 256) ∧ x.tag.length ≤ maxLen ∧ x.name.length ≤ maxLen ∧ x.value.length ≤ maxLen ∧ (-9223372036854775808 ≤ x.n ∧ x.n ≤ 9223372036854775807) ∧ (-9223372036854775808 ≤ x.m ∧ x.m ≤ 9223372036854775807) ∧ x.oids.length ≤ maxLen ∧ (x.cols.length ≤ maxLen ∧ ∀ c ∈ x.cols, OkCo c) ∧ (x.row.length ≤ maxLen ∧ ∀ c ∈ x.row, OkCl c) ∧ (x.fields.length ≤ maxLen ∧ ∀ c ∈ x.fields, OkFi c)
theorem sh_bkC : Shape Try.prog 69 bkC OkBk :=
  Shape.map (shape_struct Try.underlying69 (by kernel_rfl) (shape_cons (k := 1) rfl (by kernel_rfl) sh_u8 (by kernel_rfl) (shape_cons (k := 1) rfl (by kernel_rfl) sh_u8 (by kernel_rfl) (shape_cons (k := 1) rfl (by kernel_rfl) sh_str (by kernel_rfl) (shape_cons (k := 1) rfl (by kernel_rfl) sh_str (by kernel_rfl) (shape_cons (k := 1) rfl (by kernel_rfl) sh_str (by kernel_rfl) (shape_cons (k := 1) rfl (by kernel_rfl) sh_int (by kernel_rfl) (shape_cons (k := 1) rfl (by kernel_rfl) sh_int (by kernel_rfl) (shape_cons (k := 1) rfl (by kernel_rfl) sh_ints (by kernel_rfl) (shape_cons (k := 1) rfl (by kernel_rfl) sh_coCL (by kernel_rfl) (shape_cons (k := 1) rfl (by kernel_rfl) sh_cellCL (by kernel_rfl) (shape_one (k := 1) rfl (by kernel_rfl) sh_fiCL)))))))))))) (fun p => ⟨p.1, p.2.1, p.2.2.1, p.2.2.2.1, p.2.2.2.2.1, p.2.2.2.2.2.1, p.2.2.2.2.2.2.1, p.2.2.2.2.2.2.2.1, p.2.2.2.2.2.2.2.2.1, p.2.2.2.2.2.2.2.2.2.1, p.2.2.2.2.2.2.2.2.2.2⟩) (fun _ => rfl) (fun _ h => h)
theorem sh_bkCL : Shape Try.prog 61 (fun l : List Bk => [.sl 11 (enc bkC l) none .no]) (fun l => l.length ≤ maxLen ∧ ∀ x ∈ l, OkBk x) := shape_slice Try.underlying61 (by kernel_rfl) (by decide) sh_bkC (fun _ => rfl)
def OkTo (x : To) : Prop := True ∧ x.name.length ≤ maxLen ∧ (-9223372036854775808 ≤ x.id ∧ x.id ≤ 9223372036854775807)
theorem sh_toC : Shape Try.prog 87 toC OkTo :=
  Shape.map (shape_struct Try.underlying87 (by kernel_rfl) (shape_cons (k := 1) rfl (by kernel_rfl) sh_bool (by kernel_rfl) (shape_cons (k := 1) rfl (by kernel_rfl) sh_str (by kernel_rfl) (shape_one (k := 1) rfl (by kernel_rfl) sh_int)))) (fun p => ⟨p.1, p.2.1, p.2.2⟩) (fun _ => rfl) (fun _ h => h)
theorem sh_toCL : Shape Try.prog 37 (fun l : List To => [.sl 3 (enc toC l) none .no]) (fun l => l.length ≤ maxLen ∧ ∀ x ∈ l, OkTo x) := shape_slice Try.underlying37 (by kernel_rfl) (by decide) sh_toC (fun _ => rfl)
def OkOc (x : Oc) : Prop := (-9223372036854775808 ≤ x.kind ∧ x.kind ≤ 9223372036854775807) ∧ (-9223372036854775808 ≤ x.id ∧ x.id ≤ 9223372036854775807)
theorem sh_ocC : Shape Try.prog 90 ocC OkOc :=
  Shape.map (shape_struct Try.underlying90 (by kernel_rfl) (shape_cons (k := 1) rfl (by kernel_rfl) sh_int (by kernel_rfl) (shape_one (k := 1) rfl (by kernel_rfl) sh_int))) (fun p => ⟨p.1, p.2⟩) (fun _ => rfl) (fun _ h => h)
theorem sh_ocCL : Shape Try.prog 38 (fun l : List Oc => [.sl 2 (enc ocC l) none .no]) (fun l => l.length ≤ maxLen ∧ ∀ x ∈ l, OkOc x) := shape_slice Try.underlying38 (by kernel_rfl) (by decide) sh_ocC (fun _ => rfl)
def OkEn (x : En) : Prop := (-9223372036854775808 ≤ x.kind ∧ x.kind ≤ 9223372036854775807) ∧ True ∧ x.from_.length ≤ maxLen ∧ x.to.length ≤ maxLen ∧ (x.good.length ≤ maxLen ∧ ∀ c ∈ x.good, OkTo c) ∧ (x.bad.length ≤ maxLen ∧ ∀ c ∈ x.bad, OkTo c) ∧ (x.cache.length ≤ maxLen ∧ ∀ c ∈ x.cache, OkOc c) ∧ x.reply.length ≤ maxLen
theorem sh_enC : Shape Try.prog 41 enC OkEn :=
  Shape.map (shape_struct Try.underlying41 (by kernel_rfl) (shape_cons (k := 1) rfl (by kernel_rfl) sh_int (by kernel_rfl) (shape_cons (k := 1) rfl (by kernel_rfl) sh_bool (by kernel_rfl) (shape_cons (k := 1) rfl (by kernel_rfl) sh_str (by kernel_rfl) (shape_cons (k := 1) rfl (by kernel_rfl) sh_str (by kernel_rfl) (shape_cons (k := 1) rfl (by kernel_rfl) sh_toCL (by kernel_rfl) (shape_cons (k := 1) rfl (by kernel_rfl) sh_toCL (by kernel_rfl) (shape_cons (k := 1) rfl (by kernel_rfl) sh_ocCL (by kernel_rfl) (shape_one (k := 1) rfl (by kernel_rfl) sh_bytes))))))))) (fun p => ⟨p.1, p.2.1, p.2.2.1, p.2.2.2.1, p.2.2.2.2.1, p.2.2.2.2.2.1, p.2.2.2.2.2.2.1, p.2.2.2.2.2.2.2⟩) (fun _ => rfl) (fun _ h => h)
theorem sh_enCL : Shape Try.prog 32 (fun l : List En => [.sl 8 (enc enC l) none .no]) (fun l => l.length ≤ maxLen ∧ ∀ x ∈ l, OkEn x) := shape_slice Try.underlying32 (by kernel_rfl) (by decide) sh_enC (fun _ => rfl)
end Go.Proofs.Ytpogpofmakcodaa.Ax
