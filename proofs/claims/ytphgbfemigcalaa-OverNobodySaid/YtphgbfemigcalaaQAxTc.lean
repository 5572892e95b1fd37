/- Layer 15's statement: a name has what it was set to last. -/
import Derived.Test.YtphgbfemigcalaaQAxXr
import Derived.Test.YtphgbfemigcalaaRows
import Derived.Test.YtphgbfemigcalaaQAxSt
/- The types of package api as Lean structures, and how they are laid out. No program is named here. Written by gen/ax_types.py. -/
namespace Go.Proofs.Ytphgbfemigcalaa.Ax
open Go.RowKit Go By
set_option linter.unusedSimpArgs false
set_option linter.unusedVariables false

abbrev Cl := Bool × List UInt8
def cellC (c : Cl) : List AV := [.v (.bool c.1), .sl 1 (bytesE c.2) none .no]
@[simp] theorem cellC_len (x : Cl) : (cellC x).length = 2 := of_eq_true (eq_self _)
@[simp] theorem cellC_unown (x : Cl) : (cellC x).map AV.unown = cellC x := of_eq_true (eq_self _)
@[simp] theorem cellC_take (x : Cl) : List.take 2 (cellC x) = cellC x := of_eq_true (eq_self _)
@[simp] theorem cellC_0 (x : Cl) : (cellC x)[0]? = some (.v (.bool x.1)) := of_eq_true (eq_self _)
@[simp] theorem cellC_g0 (x : Cl) (h : 0 < (cellC x).length) : (cellC x)[0] = .v (.bool x.1) := of_eq_true (eq_self _)
@[simp] theorem cellC_1 (x : Cl) : (cellC x)[1]? = some (.sl 1 (bytesE x.2) none .no) := of_eq_true (eq_self _)
@[simp] theorem cellC_g1 (x : Cl) (h : 1 < (cellC x).length) : (cellC x)[1] = .sl 1 (bytesE x.2) none .no := of_eq_true (eq_self _)
theorem cellC_mk (x : Cl) : cellC x = [.v (.bool x.1), .sl 1 (bytesE x.2) none .no] := rfl
@[simp] theorem cellC_lt (n : Nat) (x : Cl) : ltL n (cellC x) := by simp [cellC_mk]
@[simp] theorem ltLL_cellC (n : Nat) (l : List Cl) : ltLL n (enc cellC l) := ltLL_enc _ n (cellC_lt n) l
@[simp] theorem cellC_id (x : Cl) : ∀ y ∈ cellC x, y.idOf = none := by simp [cellC_mk]
/-- api.Msg -/
structure Ms where
  type : Int
  body : List UInt8
  deriving DecidableEq
def msC (x : Ms) : List AV := [.v (.int .u8 x.type), .sl 1 (bytesE x.body) none .no]
@[simp] theorem msC_len (x : Ms) : (msC x).length = 2 := of_eq_true (eq_self _)
@[simp] theorem msC_unown (x : Ms) : (msC x).map AV.unown = msC x := of_eq_true (eq_self _)
@[simp] theorem msC_take (x : Ms) : List.take 2 (msC x) = msC x := of_eq_true (eq_self _)
@[simp] theorem msC_0 (x : Ms) : (msC x)[0]? = some (.v (.int .u8 x.type)) := of_eq_true (eq_self _)
@[simp] theorem msC_g0 (x : Ms) (h : 0 < (msC x).length) : (msC x)[0] = .v (.int .u8 x.type) := of_eq_true (eq_self _)
@[simp] theorem msC_1 (x : Ms) : (msC x)[1]? = some (.sl 1 (bytesE x.body) none .no) := of_eq_true (eq_self _)
@[simp] theorem msC_g1 (x : Ms) (h : 1 < (msC x).length) : (msC x)[1] = .sl 1 (bytesE x.body) none .no := of_eq_true (eq_self _)
theorem msC_mk (x : Ms) : msC x = [.v (.int .u8 x.type), .sl 1 (bytesE x.body) none .no] := rfl
@[simp] theorem msC_lt (n : Nat) (x : Ms) : ltL n (msC x) := by simp [msC_mk]
@[simp] theorem ltLL_msC (n : Nat) (l : List Ms) : ltLL n (enc msC l) := ltLL_enc _ n (msC_lt n) l
@[simp] theorem msC_id (x : Ms) : ∀ y ∈ msC x, y.idOf = none := by simp [msC_mk]
/-- api.Pair -/
structure Pa where
  name : List UInt8
  value : List UInt8
  deriving DecidableEq
def paC (x : Pa) : List AV := [.v (.string (strB x.name)), .v (.string (strB x.value))]
@[simp] theorem paC_len (x : Pa) : (paC x).length = 2 := of_eq_true (eq_self _)
@[simp] theorem paC_unown (x : Pa) : (paC x).map AV.unown = paC x := of_eq_true (eq_self _)
@[simp] theorem paC_take (x : Pa) : List.take 2 (paC x) = paC x := of_eq_true (eq_self _)
@[simp] theorem paC_0 (x : Pa) : (paC x)[0]? = some (.v (.string (strB x.name))) := of_eq_true (eq_self _)
@[simp] theorem paC_g0 (x : Pa) (h : 0 < (paC x).length) : (paC x)[0] = .v (.string (strB x.name)) := of_eq_true (eq_self _)
@[simp] theorem paC_1 (x : Pa) : (paC x)[1]? = some (.v (.string (strB x.value))) := of_eq_true (eq_self _)
@[simp] theorem paC_g1 (x : Pa) (h : 1 < (paC x).length) : (paC x)[1] = .v (.string (strB x.value)) := of_eq_true (eq_self _)
theorem paC_mk (x : Pa) : paC x = [.v (.string (strB x.name)), .v (.string (strB x.value))] := rfl
@[simp] theorem paC_lt (n : Nat) (x : Pa) : ltL n (paC x) := by simp [paC_mk]
@[simp] theorem ltLL_paC (n : Nat) (l : List Pa) : ltLL n (enc paC l) := ltLL_enc _ n (paC_lt n) l
@[simp] theorem paC_id (x : Pa) : ∀ y ∈ paC x, y.idOf = none := by simp [paC_mk]
/-- api.Col -/
structure Co where
  name : List UInt8
  table : Int
  attr : Int
  oid : Int
  size : Int
  mod : Int
  format : Int
  deriving DecidableEq
def coC (x : Co) : List AV := [.v (.string (strB x.name)), .v (.int .i64 x.table), .v (.int .i64 x.attr), .v (.int .i64 x.oid), .v (.int .i64 x.size), .v (.int .i64 x.mod), .v (.int .i64 x.format)]
@[simp] theorem coC_len (x : Co) : (coC x).length = 7 := of_eq_true (eq_self _)
@[simp] theorem coC_unown (x : Co) : (coC x).map AV.unown = coC x := of_eq_true (eq_self _)
@[simp] theorem coC_take (x : Co) : List.take 7 (coC x) = coC x := of_eq_true (eq_self _)
@[simp] theorem coC_0 (x : Co) : (coC x)[0]? = some (.v (.string (strB x.name))) := of_eq_true (eq_self _)
@[simp] theorem coC_g0 (x : Co) (h : 0 < (coC x).length) : (coC x)[0] = .v (.string (strB x.name)) := of_eq_true (eq_self _)
@[simp] theorem coC_1 (x : Co) : (coC x)[1]? = some (.v (.int .i64 x.table)) := of_eq_true (eq_self _)
@[simp] theorem coC_g1 (x : Co) (h : 1 < (coC x).length) : (coC x)[1] = .v (.int .i64 x.table) := of_eq_true (eq_self _)
@[simp] theorem coC_2 (x : Co) : (coC x)[2]? = some (.v (.int .i64 x.attr)) := of_eq_true (eq_self _)
@[simp] theorem coC_g2 (x : Co) (h : 2 < (coC x).length) : (coC x)[2] = .v (.int .i64 x.attr) := of_eq_true (eq_self _)
@[simp] theorem coC_3 (x : Co) : (coC x)[3]? = some (.v (.int .i64 x.oid)) := of_eq_true (eq_self _)
@[simp] theorem coC_g3 (x : Co) (h : 3 < (coC x).length) : (coC x)[3] = .v (.int .i64 x.oid) := of_eq_true (eq_self _)
@[simp] theorem coC_4 (x : Co) : (coC x)[4]? = some (.v (.int .i64 x.size)) := of_eq_true (eq_self _)
@[simp] theorem coC_g4 (x : Co) (h : 4 < (coC x).length) : (coC x)[4] = .v (.int .i64 x.size) := of_eq_true (eq_self _)
@[simp] theorem coC_5 (x : Co) : (coC x)[5]? = some (.v (.int .i64 x.mod)) := of_eq_true (eq_self _)
@[simp] theorem coC_g5 (x : Co) (h : 5 < (coC x).length) : (coC x)[5] = .v (.int .i64 x.mod) := of_eq_true (eq_self _)
@[simp] theorem coC_6 (x : Co) : (coC x)[6]? = some (.v (.int .i64 x.format)) := of_eq_true (eq_self _)
@[simp] theorem coC_g6 (x : Co) (h : 6 < (coC x).length) : (coC x)[6] = .v (.int .i64 x.format) := of_eq_true (eq_self _)
theorem coC_mk (x : Co) : coC x = [.v (.string (strB x.name)), .v (.int .i64 x.table), .v (.int .i64 x.attr), .v (.int .i64 x.oid), .v (.int .i64 x.size), .v (.int .i64 x.mod), .v (.int .i64 x.format)] := rfl
@[simp] theorem coC_lt (n : Nat) (x : Co) : ltL n (coC x) := by simp [coC_mk]
@[simp] theorem ltLL_coC (n : Nat) (l : List Co) : ltLL n (enc coC l) := ltLL_enc _ n (coC_lt n) l
@[simp] theorem coC_id (x : Co) : ∀ y ∈ coC x, y.idOf = none := by simp [coC_mk]
/-- api.Field -/
structure Fi where
  code : Int
  text : List UInt8
  deriving DecidableEq
def fiC (x : Fi) : List AV := [.v (.int .u8 x.code), .v (.string (strB x.text))]
@[simp] theorem fiC_len (x : Fi) : (fiC x).length = 2 := of_eq_true (eq_self _)
@[simp] theorem fiC_unown (x : Fi) : (fiC x).map AV.unown = fiC x := of_eq_true (eq_self _)
@[simp] theorem fiC_take (x : Fi) : List.take 2 (fiC x) = fiC x := of_eq_true (eq_self _)
@[simp] theorem fiC_0 (x : Fi) : (fiC x)[0]? = some (.v (.int .u8 x.code)) := of_eq_true (eq_self _)
@[simp] theorem fiC_g0 (x : Fi) (h : 0 < (fiC x).length) : (fiC x)[0] = .v (.int .u8 x.code) := of_eq_true (eq_self _)
@[simp] theorem fiC_1 (x : Fi) : (fiC x)[1]? = some (.v (.string (strB x.text))) := of_eq_true (eq_self _)
@[simp] theorem fiC_g1 (x : Fi) (h : 1 < (fiC x).length) : (fiC x)[1] = .v (.string (strB x.text)) := of_eq_true (eq_self _)
theorem fiC_mk (x : Fi) : fiC x = [.v (.int .u8 x.code), .v (.string (strB x.text))] := rfl
@[simp] theorem fiC_lt (n : Nat) (x : Fi) : ltL n (fiC x) := by simp [fiC_mk]
@[simp] theorem ltLL_fiC (n : Nat) (l : List Fi) : ltLL n (enc fiC l) := ltLL_enc _ n (fiC_lt n) l
@[simp] theorem fiC_id (x : Fi) : ∀ y ∈ fiC x, y.idOf = none := by simp [fiC_mk]
/-- api.Stmt -/
structure Sm where
  text : List UInt8
  oids : List Int
  deriving DecidableEq
def smC (x : Sm) : List AV := [.v (.string (strB x.text)), .sl 1 (enc intC x.oids) none .no]
@[simp] theorem smC_len (x : Sm) : (smC x).length = 2 := of_eq_true (eq_self _)
@[simp] theorem smC_unown (x : Sm) : (smC x).map AV.unown = smC x := of_eq_true (eq_self _)
@[simp] theorem smC_take (x : Sm) : List.take 2 (smC x) = smC x := of_eq_true (eq_self _)
@[simp] theorem smC_0 (x : Sm) : (smC x)[0]? = some (.v (.string (strB x.text))) := of_eq_true (eq_self _)
@[simp] theorem smC_g0 (x : Sm) (h : 0 < (smC x).length) : (smC x)[0] = .v (.string (strB x.text)) := of_eq_true (eq_self _)
@[simp] theorem smC_1 (x : Sm) : (smC x)[1]? = some (.sl 1 (enc intC x.oids) none .no) := of_eq_true (eq_self _)
@[simp] theorem smC_g1 (x : Sm) (h : 1 < (smC x).length) : (smC x)[1] = .sl 1 (enc intC x.oids) none .no := of_eq_true (eq_self _)
theorem smC_mk (x : Sm) : smC x = [.v (.string (strB x.text)), .sl 1 (enc intC x.oids) none .no] := rfl
@[simp] theorem smC_lt (n : Nat) (x : Sm) : ltL n (smC x) := by simp [smC_mk]
@[simp] theorem ltLL_smC (n : Nat) (l : List Sm) : ltLL n (enc smC l) := ltLL_enc _ n (smC_lt n) l
@[simp] theorem smC_id (x : Sm) : ∀ y ∈ smC x, y.idOf = none := by simp [smC_mk]
/-- api.Hello -/
structure Hm where
  code : Int
  process : Int
  secret : Int
  params : List Pa
  deriving DecidableEq
def hmC (x : Hm) : List AV := [.v (.int .i64 x.code), .v (.int .i64 x.process), .v (.int .i64 x.secret), .sl 2 (enc paC x.params) none .no]
@[simp] theorem hmC_len (x : Hm) : (hmC x).length = 4 := of_eq_true (eq_self _)
@[simp] theorem hmC_unown (x : Hm) : (hmC x).map AV.unown = hmC x := of_eq_true (eq_self _)
@[simp] theorem hmC_take (x : Hm) : List.take 4 (hmC x) = hmC x := of_eq_true (eq_self _)
@[simp] theorem hmC_0 (x : Hm) : (hmC x)[0]? = some (.v (.int .i64 x.code)) := of_eq_true (eq_self _)
@[simp] theorem hmC_g0 (x : Hm) (h : 0 < (hmC x).length) : (hmC x)[0] = .v (.int .i64 x.code) := of_eq_true (eq_self _)
@[simp] theorem hmC_1 (x : Hm) : (hmC x)[1]? = some (.v (.int .i64 x.process)) := of_eq_true (eq_self _)
@[simp] theorem hmC_g1 (x : Hm) (h : 1 < (hmC x).length) : (hmC x)[1] = .v (.int .i64 x.process) := of_eq_true (eq_self _)
@[simp] theorem hmC_2 (x : Hm) : (hmC x)[2]? = some (.v (.int .i64 x.secret)) := of_eq_true (eq_self _)
@[simp] theorem hmC_g2 (x : Hm) (h : 2 < (hmC x).length) : (hmC x)[2] = .v (.int .i64 x.secret) := of_eq_true (eq_self _)
@[simp] theorem hmC_3 (x : Hm) : (hmC x)[3]? = some (.sl 2 (enc paC x.params) none .no) := of_eq_true (eq_self _)
@[simp] theorem hmC_g3 (x : Hm) (h : 3 < (hmC x).length) : (hmC x)[3] = .sl 2 (enc paC x.params) none .no := of_eq_true (eq_self _)
theorem hmC_mk (x : Hm) : hmC x = [.v (.int .i64 x.code), .v (.int .i64 x.process), .v (.int .i64 x.secret), .sl 2 (enc paC x.params) none .no] := rfl
@[simp] theorem hmC_lt (n : Nat) (x : Hm) : ltL n (hmC x) := by simp [hmC_mk]
@[simp] theorem ltLL_hmC (n : Nat) (l : List Hm) : ltLL n (enc hmC l) := ltLL_enc _ n (hmC_lt n) l
@[simp] theorem hmC_id (x : Hm) : ∀ y ∈ hmC x, y.idOf = none := by simp [hmC_mk]
/-- api.Front -/
structure Fm where
  kind : Int
  what : Int
  name : List UInt8
  portal : List UInt8
  text : List UInt8
  oids : List Int
  formats : List Int
  results : List Int
  params : List Cl
  max : Int
  deriving DecidableEq
def fmC (x : Fm) : List AV := [.v (.int .u8 x.kind), .v (.int .u8 x.what), .v (.string (strB x.name)), .v (.string (strB x.portal)), .v (.string (strB x.text)), .sl 1 (enc intC x.oids) none .no, .sl 1 (enc intC x.formats) none .no, .sl 1 (enc intC x.results) none .no, .sl 2 (enc cellC x.params) none .no, .v (.int .i64 x.max)]
@[simp] theorem fmC_len (x : Fm) : (fmC x).length = 10 := of_eq_true (eq_self _)
@[simp] theorem fmC_unown (x : Fm) : (fmC x).map AV.unown = fmC x := of_eq_true (eq_self _)
@[simp] theorem fmC_take (x : Fm) : List.take 10 (fmC x) = fmC x := of_eq_true (eq_self _)
@[simp] theorem fmC_0 (x : Fm) : (fmC x)[0]? = some (.v (.int .u8 x.kind)) := of_eq_true (eq_self _)
@[simp] theorem fmC_g0 (x : Fm) (h : 0 < (fmC x).length) : (fmC x)[0] = .v (.int .u8 x.kind) := of_eq_true (eq_self _)
@[simp] theorem fmC_1 (x : Fm) : (fmC x)[1]? = some (.v (.int .u8 x.what)) := of_eq_true (eq_self _)
@[simp] theorem fmC_g1 (x : Fm) (h : 1 < (fmC x).length) : (fmC x)[1] = .v (.int .u8 x.what) := of_eq_true (eq_self _)
@[simp] theorem fmC_2 (x : Fm) : (fmC x)[2]? = some (.v (.string (strB x.name))) := of_eq_true (eq_self _)
@[simp] theorem fmC_g2 (x : Fm) (h : 2 < (fmC x).length) : (fmC x)[2] = .v (.string (strB x.name)) := of_eq_true (eq_self _)
@[simp] theorem fmC_3 (x : Fm) : (fmC x)[3]? = some (.v (.string (strB x.portal))) := of_eq_true (eq_self _)
@[simp] theorem fmC_g3 (x : Fm) (h : 3 < (fmC x).length) : (fmC x)[3] = .v (.string (strB x.portal)) := of_eq_true (eq_self _)
@[simp] theorem fmC_4 (x : Fm) : (fmC x)[4]? = some (.v (.string (strB x.text))) := of_eq_true (eq_self _)
@[simp] theorem fmC_g4 (x : Fm) (h : 4 < (fmC x).length) : (fmC x)[4] = .v (.string (strB x.text)) := of_eq_true (eq_self _)
@[simp] theorem fmC_5 (x : Fm) : (fmC x)[5]? = some (.sl 1 (enc intC x.oids) none .no) := of_eq_true (eq_self _)
@[simp] theorem fmC_g5 (x : Fm) (h : 5 < (fmC x).length) : (fmC x)[5] = .sl 1 (enc intC x.oids) none .no := of_eq_true (eq_self _)
@[simp] theorem fmC_6 (x : Fm) : (fmC x)[6]? = some (.sl 1 (enc intC x.formats) none .no) := of_eq_true (eq_self _)
@[simp] theorem fmC_g6 (x : Fm) (h : 6 < (fmC x).length) : (fmC x)[6] = .sl 1 (enc intC x.formats) none .no := of_eq_true (eq_self _)
@[simp] theorem fmC_7 (x : Fm) : (fmC x)[7]? = some (.sl 1 (enc intC x.results) none .no) := of_eq_true (eq_self _)
@[simp] theorem fmC_g7 (x : Fm) (h : 7 < (fmC x).length) : (fmC x)[7] = .sl 1 (enc intC x.results) none .no := of_eq_true (eq_self _)
@[simp] theorem fmC_8 (x : Fm) : (fmC x)[8]? = some (.sl 2 (enc cellC x.params) none .no) := of_eq_true (eq_self _)
@[simp] theorem fmC_g8 (x : Fm) (h : 8 < (fmC x).length) : (fmC x)[8] = .sl 2 (enc cellC x.params) none .no := of_eq_true (eq_self _)
@[simp] theorem fmC_9 (x : Fm) : (fmC x)[9]? = some (.v (.int .i64 x.max)) := of_eq_true (eq_self _)
@[simp] theorem fmC_g9 (x : Fm) (h : 9 < (fmC x).length) : (fmC x)[9] = .v (.int .i64 x.max) := of_eq_true (eq_self _)
theorem fmC_mk (x : Fm) : fmC x = [.v (.int .u8 x.kind), .v (.int .u8 x.what), .v (.string (strB x.name)), .v (.string (strB x.portal)), .v (.string (strB x.text)), .sl 1 (enc intC x.oids) none .no, .sl 1 (enc intC x.formats) none .no, .sl 1 (enc intC x.results) none .no, .sl 2 (enc cellC x.params) none .no, .v (.int .i64 x.max)] := rfl
@[simp] theorem fmC_lt (n : Nat) (x : Fm) : ltL n (fmC x) := by simp [fmC_mk]
@[simp] theorem ltLL_fmC (n : Nat) (l : List Fm) : ltLL n (enc fmC l) := ltLL_enc _ n (fmC_lt n) l
@[simp] theorem fmC_id (x : Fm) : ∀ y ∈ fmC x, y.idOf = none := by simp [fmC_mk]
/-- api.Back -/
structure Bk where
  kind : Int
  status : Int
  tag : List UInt8
  name : List UInt8
  value : List UInt8
  n : Int
  m : Int
  oids : List Int
  cols : List Co
  row : List Cl
  fields : List Fi
  deriving DecidableEq
def bkC (x : Bk) : List AV := [.v (.int .u8 x.kind), .v (.int .u8 x.status), .v (.string (strB x.tag)), .v (.string (strB x.name)), .v (.string (strB x.value)), .v (.int .i64 x.n), .v (.int .i64 x.m), .sl 1 (enc intC x.oids) none .no, .sl 7 (enc coC x.cols) none .no, .sl 2 (enc cellC x.row) none .no, .sl 2 (enc fiC x.fields) none .no]
@[simp] theorem bkC_len (x : Bk) : (bkC x).length = 11 := of_eq_true (eq_self _)
@[simp] theorem bkC_unown (x : Bk) : (bkC x).map AV.unown = bkC x := of_eq_true (eq_self _)
@[simp] theorem bkC_take (x : Bk) : List.take 11 (bkC x) = bkC x := of_eq_true (eq_self _)
@[simp] theorem bkC_0 (x : Bk) : (bkC x)[0]? = some (.v (.int .u8 x.kind)) := of_eq_true (eq_self _)
@[simp] theorem bkC_g0 (x : Bk) (h : 0 < (bkC x).length) : (bkC x)[0] = .v (.int .u8 x.kind) := of_eq_true (eq_self _)
@[simp] theorem bkC_1 (x : Bk) : (bkC x)[1]? = some (.v (.int .u8 x.status)) := of_eq_true (eq_self _)
@[simp] theorem bkC_g1 (x : Bk) (h : 1 < (bkC x).length) : (bkC x)[1] = .v (.int .u8 x.status) := of_eq_true (eq_self _)
@[simp] theorem bkC_2 (x : Bk) : (bkC x)[2]? = some (.v (.string (strB x.tag))) := of_eq_true (eq_self _)
@[simp] theorem bkC_g2 (x : Bk) (h : 2 < (bkC x).length) : (bkC x)[2] = .v (.string (strB x.tag)) := of_eq_true (eq_self _)
@[simp] theorem bkC_3 (x : Bk) : (bkC x)[3]? = some (.v (.string (strB x.name))) := of_eq_true (eq_self _)
@[simp] theorem bkC_g3 (x : Bk) (h : 3 < (bkC x).length) : (bkC x)[3] = .v (.string (strB x.name)) := of_eq_true (eq_self _)
@[simp] theorem bkC_4 (x : Bk) : (bkC x)[4]? = some (.v (.string (strB x.value))) := of_eq_true (eq_self _)
@[simp] theorem bkC_g4 (x : Bk) (h : 4 < (bkC x).length) : (bkC x)[4] = .v (.string (strB x.value)) := of_eq_true (eq_self _)
@[simp] theorem bkC_5 (x : Bk) : (bkC x)[5]? = some (.v (.int .i64 x.n)) := of_eq_true (eq_self _)
@[simp] theorem bkC_g5 (x : Bk) (h : 5 < (bkC x).length) : (bkC x)[5] = .v (.int .i64 x.n) := of_eq_true (eq_self _)
@[simp] theorem bkC_6 (x : Bk) : (bkC x)[6]? = some (.v (.int .i64 x.m)) := of_eq_true (eq_self _)
@[simp] theorem bkC_g6 (x : Bk) (h : 6 < (bkC x).length) : (bkC x)[6] = .v (.int .i64 x.m) := of_eq_true (eq_self _)
@[simp] theorem bkC_7 (x : Bk) : (bkC x)[7]? = some (.sl 1 (enc intC x.oids) none .no) := of_eq_true (eq_self _)
@[simp] theorem bkC_g7 (x : Bk) (h : 7 < (bkC x).length) : (bkC x)[7] = .sl 1 (enc intC x.oids) none .no := of_eq_true (eq_self _)
@[simp] theorem bkC_8 (x : Bk) : (bkC x)[8]? = some (.sl 7 (enc coC x.cols) none .no) := of_eq_true (eq_self _)
@[simp] theorem bkC_g8 (x : Bk) (h : 8 < (bkC x).length) : (bkC x)[8] = .sl 7 (enc coC x.cols) none .no := of_eq_true (eq_self _)
@[simp] theorem bkC_9 (x : Bk) : (bkC x)[9]? = some (.sl 2 (enc cellC x.row) none .no) := of_eq_true (eq_self _)
@[simp] theorem bkC_g9 (x : Bk) (h : 9 < (bkC x).length) : (bkC x)[9] = .sl 2 (enc cellC x.row) none .no := of_eq_true (eq_self _)
@[simp] theorem bkC_10 (x : Bk) : (bkC x)[10]? = some (.sl 2 (enc fiC x.fields) none .no) := of_eq_true (eq_self _)
@[simp] theorem bkC_g10 (x : Bk) (h : 10 < (bkC x).length) : (bkC x)[10] = .sl 2 (enc fiC x.fields) none .no := of_eq_true (eq_self _)
theorem bkC_mk (x : Bk) : bkC x = [.v (.int .u8 x.kind), .v (.int .u8 x.status), .v (.string (strB x.tag)), .v (.string (strB x.name)), .v (.string (strB x.value)), .v (.int .i64 x.n), .v (.int .i64 x.m), .sl 1 (enc intC x.oids) none .no, .sl 7 (enc coC x.cols) none .no, .sl 2 (enc cellC x.row) none .no, .sl 2 (enc fiC x.fields) none .no] := rfl
@[simp] theorem bkC_lt (n : Nat) (x : Bk) : ltL n (bkC x) := by simp [bkC_mk]
@[simp] theorem ltLL_bkC (n : Nat) (l : List Bk) : ltLL n (enc bkC l) := ltLL_enc _ n (bkC_lt n) l
@[simp] theorem bkC_id (x : Bk) : ∀ y ∈ bkC x, y.idOf = none := by simp [bkC_mk]
/-- api.TableOp -/
structure To where
  set : Bool
  name : List UInt8
  id : Int
  deriving DecidableEq
def toC (x : To) : List AV := [.v (.bool x.set), .v (.string (strB x.name)), .v (.int .i64 x.id)]
@[simp] theorem toC_len (x : To) : (toC x).length = 3 := of_eq_true (eq_self _)
@[simp] theorem toC_unown (x : To) : (toC x).map AV.unown = toC x := of_eq_true (eq_self _)
@[simp] theorem toC_take (x : To) : List.take 3 (toC x) = toC x := of_eq_true (eq_self _)
@[simp] theorem toC_0 (x : To) : (toC x)[0]? = some (.v (.bool x.set)) := of_eq_true (eq_self _)
@[simp] theorem toC_g0 (x : To) (h : 0 < (toC x).length) : (toC x)[0] = .v (.bool x.set) := of_eq_true (eq_self _)
@[simp] theorem toC_1 (x : To) : (toC x)[1]? = some (.v (.string (strB x.name))) := of_eq_true (eq_self _)
@[simp] theorem toC_g1 (x : To) (h : 1 < (toC x).length) : (toC x)[1] = .v (.string (strB x.name)) := of_eq_true (eq_self _)
@[simp] theorem toC_2 (x : To) : (toC x)[2]? = some (.v (.int .i64 x.id)) := of_eq_true (eq_self _)
@[simp] theorem toC_g2 (x : To) (h : 2 < (toC x).length) : (toC x)[2] = .v (.int .i64 x.id) := of_eq_true (eq_self _)
theorem toC_mk (x : To) : toC x = [.v (.bool x.set), .v (.string (strB x.name)), .v (.int .i64 x.id)] := rfl
@[simp] theorem toC_lt (n : Nat) (x : To) : ltL n (toC x) := by simp [toC_mk]
@[simp] theorem ltLL_toC (n : Nat) (l : List To) : ltLL n (enc toC l) := ltLL_enc _ n (toC_lt n) l
@[simp] theorem toC_id (x : To) : ∀ y ∈ toC x, y.idOf = none := by simp [toC_mk]
/-- api.CacheOp -/
structure Oc where
  kind : Int
  id : Int
  deriving DecidableEq
def ocC (x : Oc) : List AV := [.v (.int .i64 x.kind), .v (.int .i64 x.id)]
@[simp] theorem ocC_len (x : Oc) : (ocC x).length = 2 := of_eq_true (eq_self _)
@[simp] theorem ocC_unown (x : Oc) : (ocC x).map AV.unown = ocC x := of_eq_true (eq_self _)
@[simp] theorem ocC_take (x : Oc) : List.take 2 (ocC x) = ocC x := of_eq_true (eq_self _)
@[simp] theorem ocC_0 (x : Oc) : (ocC x)[0]? = some (.v (.int .i64 x.kind)) := of_eq_true (eq_self _)
@[simp] theorem ocC_g0 (x : Oc) (h : 0 < (ocC x).length) : (ocC x)[0] = .v (.int .i64 x.kind) := of_eq_true (eq_self _)
@[simp] theorem ocC_1 (x : Oc) : (ocC x)[1]? = some (.v (.int .i64 x.id)) := of_eq_true (eq_self _)
@[simp] theorem ocC_g1 (x : Oc) (h : 1 < (ocC x).length) : (ocC x)[1] = .v (.int .i64 x.id) := of_eq_true (eq_self _)
theorem ocC_mk (x : Oc) : ocC x = [.v (.int .i64 x.kind), .v (.int .i64 x.id)] := rfl
@[simp] theorem ocC_lt (n : Nat) (x : Oc) : ltL n (ocC x) := by simp [ocC_mk]
@[simp] theorem ltLL_ocC (n : Nat) (l : List Oc) : ltLL n (enc ocC l) := ltLL_enc _ n (ocC_lt n) l
@[simp] theorem ocC_id (x : Oc) : ∀ y ∈ ocC x, y.idOf = none := by simp [ocC_mk]
/-- api.Entry -/
structure En where
  kind : Int
  hide : Bool
  from_ : List UInt8
  to : List UInt8
  good : List To
  bad : List To
  cache : List Oc
  reply : List UInt8
  deriving DecidableEq
def enC (x : En) : List AV := [.v (.int .i64 x.kind), .v (.bool x.hide), .v (.string (strB x.from_)), .v (.string (strB x.to)), .sl 3 (enc toC x.good) none .no, .sl 3 (enc toC x.bad) none .no, .sl 2 (enc ocC x.cache) none .no, .sl 1 (bytesE x.reply) none .no]
@[simp] theorem enC_len (x : En) : (enC x).length = 8 := of_eq_true (eq_self _)
@[simp] theorem enC_unown (x : En) : (enC x).map AV.unown = enC x := of_eq_true (eq_self _)
@[simp] theorem enC_take (x : En) : List.take 8 (enC x) = enC x := of_eq_true (eq_self _)
@[simp] theorem enC_0 (x : En) : (enC x)[0]? = some (.v (.int .i64 x.kind)) := of_eq_true (eq_self _)
@[simp] theorem enC_g0 (x : En) (h : 0 < (enC x).length) : (enC x)[0] = .v (.int .i64 x.kind) := of_eq_true (eq_self _)
@[simp] theorem enC_1 (x : En) : (enC x)[1]? = some (.v (.bool x.hide)) := of_eq_true (eq_self _)
@[simp] theorem enC_g1 (x : En) (h : 1 < (enC x).length) : (enC x)[1] = .v (.bool x.hide) := of_eq_true (eq_self _)
@[simp] theorem enC_2 (x : En) : (enC x)[2]? = some (.v (.string (strB x.from_))) := of_eq_true (eq_self _)
@[simp] theorem enC_g2 (x : En) (h : 2 < (enC x).length) : (enC x)[2] = .v (.string (strB x.from_)) := of_eq_true (eq_self _)
@[simp] theorem enC_3 (x : En) : (enC x)[3]? = some (.v (.string (strB x.to))) := of_eq_true (eq_self _)
@[simp] theorem enC_g3 (x : En) (h : 3 < (enC x).length) : (enC x)[3] = .v (.string (strB x.to)) := of_eq_true (eq_self _)
@[simp] theorem enC_4 (x : En) : (enC x)[4]? = some (.sl 3 (enc toC x.good) none .no) := of_eq_true (eq_self _)
@[simp] theorem enC_g4 (x : En) (h : 4 < (enC x).length) : (enC x)[4] = .sl 3 (enc toC x.good) none .no := of_eq_true (eq_self _)
@[simp] theorem enC_5 (x : En) : (enC x)[5]? = some (.sl 3 (enc toC x.bad) none .no) := of_eq_true (eq_self _)
@[simp] theorem enC_g5 (x : En) (h : 5 < (enC x).length) : (enC x)[5] = .sl 3 (enc toC x.bad) none .no := of_eq_true (eq_self _)
@[simp] theorem enC_6 (x : En) : (enC x)[6]? = some (.sl 2 (enc ocC x.cache) none .no) := of_eq_true (eq_self _)
@[simp] theorem enC_g6 (x : En) (h : 6 < (enC x).length) : (enC x)[6] = .sl 2 (enc ocC x.cache) none .no := of_eq_true (eq_self _)
@[simp] theorem enC_7 (x : En) : (enC x)[7]? = some (.sl 1 (bytesE x.reply) none .no) := of_eq_true (eq_self _)
@[simp] theorem enC_g7 (x : En) (h : 7 < (enC x).length) : (enC x)[7] = .sl 1 (bytesE x.reply) none .no := of_eq_true (eq_self _)
theorem enC_mk (x : En) : enC x = [.v (.int .i64 x.kind), .v (.bool x.hide), .v (.string (strB x.from_)), .v (.string (strB x.to)), .sl 3 (enc toC x.good) none .no, .sl 3 (enc toC x.bad) none .no, .sl 2 (enc ocC x.cache) none .no, .sl 1 (bytesE x.reply) none .no] := rfl
@[simp] theorem enC_lt (n : Nat) (x : En) : ltL n (enC x) := by simp [enC_mk]
@[simp] theorem ltLL_enC (n : Nat) (l : List En) : ltLL n (enc enC l) := ltLL_enc _ n (enC_lt n) l
@[simp] theorem enC_id (x : En) : ∀ y ∈ enC x, y.idOf = none := by simp [enC_mk]
/-- api.Verb -/
structure Vb where
  kind : Int
  n : Int
  code : List UInt8
  deriving DecidableEq
def vbC (x : Vb) : List AV := [.v (.int .i64 x.kind), .v (.int .i64 x.n), .v (.string (strB x.code))]
@[simp] theorem vbC_len (x : Vb) : (vbC x).length = 3 := of_eq_true (eq_self _)
@[simp] theorem vbC_unown (x : Vb) : (vbC x).map AV.unown = vbC x := of_eq_true (eq_self _)
@[simp] theorem vbC_take (x : Vb) : List.take 3 (vbC x) = vbC x := of_eq_true (eq_self _)
@[simp] theorem vbC_0 (x : Vb) : (vbC x)[0]? = some (.v (.int .i64 x.kind)) := of_eq_true (eq_self _)
@[simp] theorem vbC_g0 (x : Vb) (h : 0 < (vbC x).length) : (vbC x)[0] = .v (.int .i64 x.kind) := of_eq_true (eq_self _)
@[simp] theorem vbC_1 (x : Vb) : (vbC x)[1]? = some (.v (.int .i64 x.n)) := of_eq_true (eq_self _)
@[simp] theorem vbC_g1 (x : Vb) (h : 1 < (vbC x).length) : (vbC x)[1] = .v (.int .i64 x.n) := of_eq_true (eq_self _)
@[simp] theorem vbC_2 (x : Vb) : (vbC x)[2]? = some (.v (.string (strB x.code))) := of_eq_true (eq_self _)
@[simp] theorem vbC_g2 (x : Vb) (h : 2 < (vbC x).length) : (vbC x)[2] = .v (.string (strB x.code)) := of_eq_true (eq_self _)
theorem vbC_mk (x : Vb) : vbC x = [.v (.int .i64 x.kind), .v (.int .i64 x.n), .v (.string (strB x.code))] := rfl
@[simp] theorem vbC_lt (n : Nat) (x : Vb) : ltL n (vbC x) := by simp [vbC_mk]
@[simp] theorem ltLL_vbC (n : Nat) (l : List Vb) : ltLL n (enc vbC l) := ltLL_enc _ n (vbC_lt n) l
@[simp] theorem vbC_id (x : Vb) : ∀ y ∈ vbC x, y.idOf = none := by simp [vbC_mk]
/-- api.Config -/
structure Cf where
  servers : Int
  cache : Int
  table : Int
  message : Int
  buffer : Int
  queue : Int
  params : List Pa
  deriving DecidableEq
def cfC (x : Cf) : List AV := [.v (.int .i64 x.servers), .v (.int .i64 x.cache), .v (.int .i64 x.table), .v (.int .i64 x.message), .v (.int .i64 x.buffer), .v (.int .i64 x.queue), .sl 2 (enc paC x.params) none .no]
@[simp] theorem cfC_len (x : Cf) : (cfC x).length = 7 := of_eq_true (eq_self _)
@[simp] theorem cfC_unown (x : Cf) : (cfC x).map AV.unown = cfC x := of_eq_true (eq_self _)
@[simp] theorem cfC_take (x : Cf) : List.take 7 (cfC x) = cfC x := of_eq_true (eq_self _)
@[simp] theorem cfC_0 (x : Cf) : (cfC x)[0]? = some (.v (.int .i64 x.servers)) := of_eq_true (eq_self _)
@[simp] theorem cfC_g0 (x : Cf) (h : 0 < (cfC x).length) : (cfC x)[0] = .v (.int .i64 x.servers) := of_eq_true (eq_self _)
@[simp] theorem cfC_1 (x : Cf) : (cfC x)[1]? = some (.v (.int .i64 x.cache)) := of_eq_true (eq_self _)
@[simp] theorem cfC_g1 (x : Cf) (h : 1 < (cfC x).length) : (cfC x)[1] = .v (.int .i64 x.cache) := of_eq_true (eq_self _)
@[simp] theorem cfC_2 (x : Cf) : (cfC x)[2]? = some (.v (.int .i64 x.table)) := of_eq_true (eq_self _)
@[simp] theorem cfC_g2 (x : Cf) (h : 2 < (cfC x).length) : (cfC x)[2] = .v (.int .i64 x.table) := of_eq_true (eq_self _)
@[simp] theorem cfC_3 (x : Cf) : (cfC x)[3]? = some (.v (.int .i64 x.message)) := of_eq_true (eq_self _)
@[simp] theorem cfC_g3 (x : Cf) (h : 3 < (cfC x).length) : (cfC x)[3] = .v (.int .i64 x.message) := of_eq_true (eq_self _)
@[simp] theorem cfC_4 (x : Cf) : (cfC x)[4]? = some (.v (.int .i64 x.buffer)) := of_eq_true (eq_self _)
@[simp] theorem cfC_g4 (x : Cf) (h : 4 < (cfC x).length) : (cfC x)[4] = .v (.int .i64 x.buffer) := of_eq_true (eq_self _)
@[simp] theorem cfC_5 (x : Cf) : (cfC x)[5]? = some (.v (.int .i64 x.queue)) := of_eq_true (eq_self _)
@[simp] theorem cfC_g5 (x : Cf) (h : 5 < (cfC x).length) : (cfC x)[5] = .v (.int .i64 x.queue) := of_eq_true (eq_self _)
@[simp] theorem cfC_6 (x : Cf) : (cfC x)[6]? = some (.sl 2 (enc paC x.params) none .no) := of_eq_true (eq_self _)
@[simp] theorem cfC_g6 (x : Cf) (h : 6 < (cfC x).length) : (cfC x)[6] = .sl 2 (enc paC x.params) none .no := of_eq_true (eq_self _)
theorem cfC_mk (x : Cf) : cfC x = [.v (.int .i64 x.servers), .v (.int .i64 x.cache), .v (.int .i64 x.table), .v (.int .i64 x.message), .v (.int .i64 x.buffer), .v (.int .i64 x.queue), .sl 2 (enc paC x.params) none .no] := rfl
@[simp] theorem cfC_lt (n : Nat) (x : Cf) : ltL n (cfC x) := by simp [cfC_mk]
@[simp] theorem ltLL_cfC (n : Nat) (l : List Cf) : ltLL n (enc cfC l) := ltLL_enc _ n (cfC_lt n) l
@[simp] theorem cfC_id (x : Cf) : ∀ y ∈ cfC x, y.idOf = none := by simp [cfC_mk]
/-- api.Event -/
structure Ev where
  kind : Int
  who : Int
  n : Int
  bytes : List UInt8
  deriving DecidableEq
def evC (x : Ev) : List AV := [.v (.int .i64 x.kind), .v (.int .i64 x.who), .v (.int .i64 x.n), .sl 1 (bytesE x.bytes) none .no]
@[simp] theorem evC_len (x : Ev) : (evC x).length = 4 := of_eq_true (eq_self _)
@[simp] theorem evC_unown (x : Ev) : (evC x).map AV.unown = evC x := of_eq_true (eq_self _)
@[simp] theorem evC_take (x : Ev) : List.take 4 (evC x) = evC x := of_eq_true (eq_self _)
@[simp] theorem evC_0 (x : Ev) : (evC x)[0]? = some (.v (.int .i64 x.kind)) := of_eq_true (eq_self _)
@[simp] theorem evC_g0 (x : Ev) (h : 0 < (evC x).length) : (evC x)[0] = .v (.int .i64 x.kind) := of_eq_true (eq_self _)
@[simp] theorem evC_1 (x : Ev) : (evC x)[1]? = some (.v (.int .i64 x.who)) := of_eq_true (eq_self _)
@[simp] theorem evC_g1 (x : Ev) (h : 1 < (evC x).length) : (evC x)[1] = .v (.int .i64 x.who) := of_eq_true (eq_self _)
@[simp] theorem evC_2 (x : Ev) : (evC x)[2]? = some (.v (.int .i64 x.n)) := of_eq_true (eq_self _)
@[simp] theorem evC_g2 (x : Ev) (h : 2 < (evC x).length) : (evC x)[2] = .v (.int .i64 x.n) := of_eq_true (eq_self _)
@[simp] theorem evC_3 (x : Ev) : (evC x)[3]? = some (.sl 1 (bytesE x.bytes) none .no) := of_eq_true (eq_self _)
@[simp] theorem evC_g3 (x : Ev) (h : 3 < (evC x).length) : (evC x)[3] = .sl 1 (bytesE x.bytes) none .no := of_eq_true (eq_self _)
theorem evC_mk (x : Ev) : evC x = [.v (.int .i64 x.kind), .v (.int .i64 x.who), .v (.int .i64 x.n), .sl 1 (bytesE x.bytes) none .no] := rfl
@[simp] theorem evC_lt (n : Nat) (x : Ev) : ltL n (evC x) := by simp [evC_mk]
@[simp] theorem ltLL_evC (n : Nat) (l : List Ev) : ltLL n (enc evC l) := ltLL_enc _ n (evC_lt n) l
@[simp] theorem evC_id (x : Ev) : ∀ y ∈ evC x, y.idOf = none := by simp [evC_mk]
/-- api.Sent -/
structure Se where
  client : Int
  index : Int
  bytes : List UInt8
  deriving DecidableEq
def seC (x : Se) : List AV := [.v (.int .i64 x.client), .v (.int .i64 x.index), .sl 1 (bytesE x.bytes) none .no]
@[simp] theorem seC_len (x : Se) : (seC x).length = 3 := of_eq_true (eq_self _)
@[simp] theorem seC_unown (x : Se) : (seC x).map AV.unown = seC x := of_eq_true (eq_self _)
@[simp] theorem seC_take (x : Se) : List.take 3 (seC x) = seC x := of_eq_true (eq_self _)
@[simp] theorem seC_0 (x : Se) : (seC x)[0]? = some (.v (.int .i64 x.client)) := of_eq_true (eq_self _)
@[simp] theorem seC_g0 (x : Se) (h : 0 < (seC x).length) : (seC x)[0] = .v (.int .i64 x.client) := of_eq_true (eq_self _)
@[simp] theorem seC_1 (x : Se) : (seC x)[1]? = some (.v (.int .i64 x.index)) := of_eq_true (eq_self _)
@[simp] theorem seC_g1 (x : Se) (h : 1 < (seC x).length) : (seC x)[1] = .v (.int .i64 x.index) := of_eq_true (eq_self _)
@[simp] theorem seC_2 (x : Se) : (seC x)[2]? = some (.sl 1 (bytesE x.bytes) none .no) := of_eq_true (eq_self _)
@[simp] theorem seC_g2 (x : Se) (h : 2 < (seC x).length) : (seC x)[2] = .sl 1 (bytesE x.bytes) none .no := of_eq_true (eq_self _)
theorem seC_mk (x : Se) : seC x = [.v (.int .i64 x.client), .v (.int .i64 x.index), .sl 1 (bytesE x.bytes) none .no] := rfl
@[simp] theorem seC_lt (n : Nat) (x : Se) : ltL n (seC x) := by simp [seC_mk]
@[simp] theorem ltLL_seC (n : Nat) (l : List Se) : ltLL n (enc seC l) := ltLL_enc _ n (seC_lt n) l
@[simp] theorem seC_id (x : Se) : ∀ y ∈ seC x, y.idOf = none := by simp [seC_mk]
/-- api.Call -/
structure Ca where
  client : Int
  index : Int
  deriving DecidableEq
def caC (x : Ca) : List AV := [.v (.int .i64 x.client), .v (.int .i64 x.index)]
@[simp] theorem caC_len (x : Ca) : (caC x).length = 2 := of_eq_true (eq_self _)
@[simp] theorem caC_unown (x : Ca) : (caC x).map AV.unown = caC x := of_eq_true (eq_self _)
@[simp] theorem caC_take (x : Ca) : List.take 2 (caC x) = caC x := of_eq_true (eq_self _)
@[simp] theorem caC_0 (x : Ca) : (caC x)[0]? = some (.v (.int .i64 x.client)) := of_eq_true (eq_self _)
@[simp] theorem caC_g0 (x : Ca) (h : 0 < (caC x).length) : (caC x)[0] = .v (.int .i64 x.client) := of_eq_true (eq_self _)
@[simp] theorem caC_1 (x : Ca) : (caC x)[1]? = some (.v (.int .i64 x.index)) := of_eq_true (eq_self _)
@[simp] theorem caC_g1 (x : Ca) (h : 1 < (caC x).length) : (caC x)[1] = .v (.int .i64 x.index) := of_eq_true (eq_self _)
theorem caC_mk (x : Ca) : caC x = [.v (.int .i64 x.client), .v (.int .i64 x.index)] := rfl
@[simp] theorem caC_lt (n : Nat) (x : Ca) : ltL n (caC x) := by simp [caC_mk]
@[simp] theorem ltLL_caC (n : Nat) (l : List Ca) : ltLL n (enc caC l) := ltLL_enc _ n (caC_lt n) l
@[simp] theorem caC_id (x : Ca) : ∀ y ∈ caC x, y.idOf = none := by simp [caC_mk]
/-- api.Named -/
structure Na where
  name : List UInt8
  id : Int
  deriving DecidableEq
def naC (x : Na) : List AV := [.v (.string (strB x.name)), .v (.int .i64 x.id)]
@[simp] theorem naC_len (x : Na) : (naC x).length = 2 := of_eq_true (eq_self _)
@[simp] theorem naC_unown (x : Na) : (naC x).map AV.unown = naC x := of_eq_true (eq_self _)
@[simp] theorem naC_take (x : Na) : List.take 2 (naC x) = naC x := of_eq_true (eq_self _)
@[simp] theorem naC_0 (x : Na) : (naC x)[0]? = some (.v (.string (strB x.name))) := of_eq_true (eq_self _)
@[simp] theorem naC_g0 (x : Na) (h : 0 < (naC x).length) : (naC x)[0] = .v (.string (strB x.name)) := of_eq_true (eq_self _)
@[simp] theorem naC_1 (x : Na) : (naC x)[1]? = some (.v (.int .i64 x.id)) := of_eq_true (eq_self _)
@[simp] theorem naC_g1 (x : Na) (h : 1 < (naC x).length) : (naC x)[1] = .v (.int .i64 x.id) := of_eq_true (eq_self _)
theorem naC_mk (x : Na) : naC x = [.v (.string (strB x.name)), .v (.int .i64 x.id)] := rfl
@[simp] theorem naC_lt (n : Nat) (x : Na) : ltL n (naC x) := by simp [naC_mk]
@[simp] theorem ltLL_naC (n : Nat) (l : List Na) : ltLL n (enc naC l) := ltLL_enc _ n (naC_lt n) l
@[simp] theorem naC_id (x : Na) : ∀ y ∈ naC x, y.idOf = none := by simp [naC_mk]
/-- api.Counted -/
structure Cn where
  id : Int
  refs : Int
  deriving DecidableEq
def cnC (x : Cn) : List AV := [.v (.int .i64 x.id), .v (.int .i64 x.refs)]
@[simp] theorem cnC_len (x : Cn) : (cnC x).length = 2 := of_eq_true (eq_self _)
@[simp] theorem cnC_unown (x : Cn) : (cnC x).map AV.unown = cnC x := of_eq_true (eq_self _)
@[simp] theorem cnC_take (x : Cn) : List.take 2 (cnC x) = cnC x := of_eq_true (eq_self _)
@[simp] theorem cnC_0 (x : Cn) : (cnC x)[0]? = some (.v (.int .i64 x.id)) := of_eq_true (eq_self _)
@[simp] theorem cnC_g0 (x : Cn) (h : 0 < (cnC x).length) : (cnC x)[0] = .v (.int .i64 x.id) := of_eq_true (eq_self _)
@[simp] theorem cnC_1 (x : Cn) : (cnC x)[1]? = some (.v (.int .i64 x.refs)) := of_eq_true (eq_self _)
@[simp] theorem cnC_g1 (x : Cn) (h : 1 < (cnC x).length) : (cnC x)[1] = .v (.int .i64 x.refs) := of_eq_true (eq_self _)
theorem cnC_mk (x : Cn) : cnC x = [.v (.int .i64 x.id), .v (.int .i64 x.refs)] := rfl
@[simp] theorem cnC_lt (n : Nat) (x : Cn) : ltL n (cnC x) := by simp [cnC_mk]
@[simp] theorem ltLL_cnC (n : Nat) (l : List Cn) : ltLL n (enc cnC l) := ltLL_enc _ n (cnC_lt n) l
@[simp] theorem cnC_id (x : Cn) : ∀ y ∈ cnC x, y.idOf = none := by simp [cnC_mk]
/-- api.ClientView -/
structure Cv where
  phase : Int
  server : Int
  done : Int
  table : List Na
  deriving DecidableEq
def cvC (x : Cv) : List AV := [.v (.int .i64 x.phase), .v (.int .i64 x.server), .v (.int .i64 x.done), .sl 2 (enc naC x.table) none .no]
@[simp] theorem cvC_len (x : Cv) : (cvC x).length = 4 := of_eq_true (eq_self _)
@[simp] theorem cvC_unown (x : Cv) : (cvC x).map AV.unown = cvC x := of_eq_true (eq_self _)
@[simp] theorem cvC_take (x : Cv) : List.take 4 (cvC x) = cvC x := of_eq_true (eq_self _)
@[simp] theorem cvC_0 (x : Cv) : (cvC x)[0]? = some (.v (.int .i64 x.phase)) := of_eq_true (eq_self _)
@[simp] theorem cvC_g0 (x : Cv) (h : 0 < (cvC x).length) : (cvC x)[0] = .v (.int .i64 x.phase) := of_eq_true (eq_self _)
@[simp] theorem cvC_1 (x : Cv) : (cvC x)[1]? = some (.v (.int .i64 x.server)) := of_eq_true (eq_self _)
@[simp] theorem cvC_g1 (x : Cv) (h : 1 < (cvC x).length) : (cvC x)[1] = .v (.int .i64 x.server) := of_eq_true (eq_self _)
@[simp] theorem cvC_2 (x : Cv) : (cvC x)[2]? = some (.v (.int .i64 x.done)) := of_eq_true (eq_self _)
@[simp] theorem cvC_g2 (x : Cv) (h : 2 < (cvC x).length) : (cvC x)[2] = .v (.int .i64 x.done) := of_eq_true (eq_self _)
@[simp] theorem cvC_3 (x : Cv) : (cvC x)[3]? = some (.sl 2 (enc naC x.table) none .no) := of_eq_true (eq_self _)
@[simp] theorem cvC_g3 (x : Cv) (h : 3 < (cvC x).length) : (cvC x)[3] = .sl 2 (enc naC x.table) none .no := of_eq_true (eq_self _)
theorem cvC_mk (x : Cv) : cvC x = [.v (.int .i64 x.phase), .v (.int .i64 x.server), .v (.int .i64 x.done), .sl 2 (enc naC x.table) none .no] := rfl
@[simp] theorem cvC_lt (n : Nat) (x : Cv) : ltL n (cvC x) := by simp [cvC_mk]
@[simp] theorem ltLL_cvC (n : Nat) (l : List Cv) : ltLL n (enc cvC l) := ltLL_enc _ n (cvC_lt n) l
@[simp] theorem cvC_id (x : Cv) : ∀ y ∈ cvC x, y.idOf = none := by simp [cvC_mk]
/-- api.ServerView -/
structure Sv where
  state : Int
  holder : Int
  queue : Int
  status : Int
  cache : List Int
  pending : List Int
  deriving DecidableEq
def svC (x : Sv) : List AV := [.v (.int .i64 x.state), .v (.int .i64 x.holder), .v (.int .i64 x.queue), .v (.int .u8 x.status), .sl 1 (enc intC x.cache) none .no, .sl 1 (enc intC x.pending) none .no]
@[simp] theorem svC_len (x : Sv) : (svC x).length = 6 := of_eq_true (eq_self _)
@[simp] theorem svC_unown (x : Sv) : (svC x).map AV.unown = svC x := of_eq_true (eq_self _)
@[simp] theorem svC_take (x : Sv) : List.take 6 (svC x) = svC x := of_eq_true (eq_self _)
@[simp] theorem svC_0 (x : Sv) : (svC x)[0]? = some (.v (.int .i64 x.state)) := of_eq_true (eq_self _)
@[simp] theorem svC_g0 (x : Sv) (h : 0 < (svC x).length) : (svC x)[0] = .v (.int .i64 x.state) := of_eq_true (eq_self _)
@[simp] theorem svC_1 (x : Sv) : (svC x)[1]? = some (.v (.int .i64 x.holder)) := of_eq_true (eq_self _)
@[simp] theorem svC_g1 (x : Sv) (h : 1 < (svC x).length) : (svC x)[1] = .v (.int .i64 x.holder) := of_eq_true (eq_self _)
@[simp] theorem svC_2 (x : Sv) : (svC x)[2]? = some (.v (.int .i64 x.queue)) := of_eq_true (eq_self _)
@[simp] theorem svC_g2 (x : Sv) (h : 2 < (svC x).length) : (svC x)[2] = .v (.int .i64 x.queue) := of_eq_true (eq_self _)
@[simp] theorem svC_3 (x : Sv) : (svC x)[3]? = some (.v (.int .u8 x.status)) := of_eq_true (eq_self _)
@[simp] theorem svC_g3 (x : Sv) (h : 3 < (svC x).length) : (svC x)[3] = .v (.int .u8 x.status) := of_eq_true (eq_self _)
@[simp] theorem svC_4 (x : Sv) : (svC x)[4]? = some (.sl 1 (enc intC x.cache) none .no) := of_eq_true (eq_self _)
@[simp] theorem svC_g4 (x : Sv) (h : 4 < (svC x).length) : (svC x)[4] = .sl 1 (enc intC x.cache) none .no := of_eq_true (eq_self _)
@[simp] theorem svC_5 (x : Sv) : (svC x)[5]? = some (.sl 1 (enc intC x.pending) none .no) := of_eq_true (eq_self _)
@[simp] theorem svC_g5 (x : Sv) (h : 5 < (svC x).length) : (svC x)[5] = .sl 1 (enc intC x.pending) none .no := of_eq_true (eq_self _)
theorem svC_mk (x : Sv) : svC x = [.v (.int .i64 x.state), .v (.int .i64 x.holder), .v (.int .i64 x.queue), .v (.int .u8 x.status), .sl 1 (enc intC x.cache) none .no, .sl 1 (enc intC x.pending) none .no] := rfl
@[simp] theorem svC_lt (n : Nat) (x : Sv) : ltL n (svC x) := by simp [svC_mk]
@[simp] theorem ltLL_svC (n : Nat) (l : List Sv) : ltLL n (enc svC l) := ltLL_enc _ n (svC_lt n) l
@[simp] theorem svC_id (x : Sv) : ∀ y ∈ svC x, y.idOf = none := by simp [svC_mk]
/-- api.View -/
structure Vw where
  clients : List Cv
  servers : List Sv
  registry : List Cn
  waiting : List Int
  deriving DecidableEq
def vwC (x : Vw) : List AV := [.sl 4 (enc cvC x.clients) none .no, .sl 6 (enc svC x.servers) none .no, .sl 2 (enc cnC x.registry) none .no, .sl 1 (enc intC x.waiting) none .no]
@[simp] theorem vwC_len (x : Vw) : (vwC x).length = 4 := of_eq_true (eq_self _)
@[simp] theorem vwC_unown (x : Vw) : (vwC x).map AV.unown = vwC x := of_eq_true (eq_self _)
@[simp] theorem vwC_take (x : Vw) : List.take 4 (vwC x) = vwC x := of_eq_true (eq_self _)
@[simp] theorem vwC_0 (x : Vw) : (vwC x)[0]? = some (.sl 4 (enc cvC x.clients) none .no) := of_eq_true (eq_self _)
@[simp] theorem vwC_g0 (x : Vw) (h : 0 < (vwC x).length) : (vwC x)[0] = .sl 4 (enc cvC x.clients) none .no := of_eq_true (eq_self _)
@[simp] theorem vwC_1 (x : Vw) : (vwC x)[1]? = some (.sl 6 (enc svC x.servers) none .no) := of_eq_true (eq_self _)
@[simp] theorem vwC_g1 (x : Vw) (h : 1 < (vwC x).length) : (vwC x)[1] = .sl 6 (enc svC x.servers) none .no := of_eq_true (eq_self _)
@[simp] theorem vwC_2 (x : Vw) : (vwC x)[2]? = some (.sl 2 (enc cnC x.registry) none .no) := of_eq_true (eq_self _)
@[simp] theorem vwC_g2 (x : Vw) (h : 2 < (vwC x).length) : (vwC x)[2] = .sl 2 (enc cnC x.registry) none .no := of_eq_true (eq_self _)
@[simp] theorem vwC_3 (x : Vw) : (vwC x)[3]? = some (.sl 1 (enc intC x.waiting) none .no) := of_eq_true (eq_self _)
@[simp] theorem vwC_g3 (x : Vw) (h : 3 < (vwC x).length) : (vwC x)[3] = .sl 1 (enc intC x.waiting) none .no := of_eq_true (eq_self _)
theorem vwC_mk (x : Vw) : vwC x = [.sl 4 (enc cvC x.clients) none .no, .sl 6 (enc svC x.servers) none .no, .sl 2 (enc cnC x.registry) none .no, .sl 1 (enc intC x.waiting) none .no] := rfl
@[simp] theorem vwC_lt (n : Nat) (x : Vw) : ltL n (vwC x) := by simp [vwC_mk]
@[simp] theorem ltLL_vwC (n : Nat) (l : List Vw) : ltLL n (enc vwC l) := ltLL_enc _ n (vwC_lt n) l
@[simp] theorem vwC_id (x : Vw) : ∀ y ∈ vwC x, y.idOf = none := by simp [vwC_mk]
end Go.Proofs.Ytphgbfemigcalaa.Ax
/- What reads as data of the types of package api is laid out as their structures are. Written by gen/ax_types.py. -/
namespace Go.Proofs.Ytphgbfemigcalaa.Ax
open Go.RowKit Go By
set_option linter.unusedSimpArgs false
set_option linter.unusedVariables false

theorem i64_wf {n : Int} (h : (Lit.int .i64 n).wf = true) : -9223372036854775808 ≤ n ∧ n ≤ 9223372036854775807 := by
  simp [Lit.wf, IntKind.min, IntKind.max, IntKind.signed, IntKind.bits] at h
  omega
theorem sh_int : Shape Try.prog 3 (fun n : Int => [.v (.int .i64 n)]) (fun n => -9223372036854775808 ≤ n ∧ n ≤ 9223372036854775807) := Shape.map (shape_int Try.underlying3) id (fun _ => rfl) (fun _ => i64_wf)
theorem sh_u8 : Shape Try.prog 5 (fun n : Int => [.v (.int .u8 n)]) (fun n => 0 ≤ n ∧ n < 256) := Shape.map (shape_int Try.underlying5) id (fun _ => rfl) (fun _ => u8_of_wf)
theorem sh_bool : Shape Try.prog 4 (fun b : Bool => [.v (.bool b)]) (fun _ => True) := shape_bool Try.underlying4
theorem sh_str : Shape Try.prog 9 strC (fun s => s.length ≤ maxLen) := shape_str Try.underlying9
theorem sh_bytes : Shape Try.prog 69 (fun l : List UInt8 => [.sl 1 (bytesE l) none .no]) (fun l => l.length ≤ maxLen) := shape_bytes Try.underlying69 (by kernel_rfl) Try.underlying5
theorem sh_ints : Shape Try.prog 58 (fun l : List Int => [.sl 1 (enc intC l) none .no]) (fun l => l.length ≤ maxLen) := Shape.map (shape_slice Try.underlying58 (by kernel_rfl) (by decide) sh_int (fun _ => rfl)) id (fun _ => rfl) (fun _ h => h.1)
def OkCl (x : Cl) : Prop := True ∧ x.2.length ≤ maxLen
def OkMs (x : Ms) : Prop := (0 ≤ x.type ∧ x.type < 256) ∧ x.body.length ≤ maxLen
def OkPa (x : Pa) : Prop := x.name.length ≤ maxLen ∧ x.value.length ≤ maxLen
def OkCo (x : Co) : Prop := x.name.length ≤ maxLen ∧ (-9223372036854775808 ≤ x.table ∧ x.table ≤ 9223372036854775807) ∧ (-9223372036854775808 ≤ x.attr ∧ x.attr ≤ 9223372036854775807) ∧ (-9223372036854775808 ≤ x.oid ∧ x.oid ≤ 9223372036854775807) ∧ (-9223372036854775808 ≤ x.size ∧ x.size ≤ 9223372036854775807) ∧ (-9223372036854775808 ≤ x.mod ∧ x.mod ≤ 9223372036854775807) ∧ (-9223372036854775808 ≤ x.format ∧ x.format ≤ 9223372036854775807)
def OkFi (x : Fi) : Prop := (0 ≤ x.code ∧ x.code < 256) ∧ x.text.length ≤ maxLen
def OkSm (x : Sm) : Prop := x.text.length ≤ maxLen ∧ x.oids.length ≤ maxLen
def OkHm (x : Hm) : Prop := (-9223372036854775808 ≤ x.code ∧ x.code ≤ 9223372036854775807) ∧ (-9223372036854775808 ≤ x.process ∧ x.process ≤ 9223372036854775807) ∧ (-9223372036854775808 ≤ x.secret ∧ x.secret ≤ 9223372036854775807) ∧ (x.params.length ≤ maxLen ∧ ∀ c ∈ x.params, OkPa c)
def OkFm (x : Fm) : Prop := (0 ≤ x.kind ∧ x.kind < 256) ∧ (0 ≤ x.what ∧ x.what < 256) ∧ x.name.length ≤ maxLen ∧ x.portal.length ≤ maxLen ∧ x.text.length ≤ maxLen ∧ x.oids.length ≤ maxLen ∧ x.formats.length ≤ maxLen ∧ x.results.length ≤ maxLen ∧ (x.params.length ≤ maxLen ∧ ∀ c ∈ x.params, OkCl c) ∧ (-9223372036854775808 ≤ x.max ∧ x.max ≤ 9223372036854775807)
def OkBk (x : Bk) : Prop := (0 ≤ x.kind ∧ x.kind < 256) ∧ (0 ≤ x.status ∧ x.status < 256) ∧ x.tag.length ≤ maxLen ∧ x.name.length ≤ maxLen ∧ x.value.length ≤ maxLen ∧ (-9223372036854775808 ≤ x.n ∧ x.n ≤ 9223372036854775807) ∧ (-9223372036854775808 ≤ x.m ∧ x.m ≤ 9223372036854775807) ∧ x.oids.length ≤ maxLen ∧ (x.cols.length ≤ maxLen ∧ ∀ c ∈ x.cols, OkCo c) ∧ (x.row.length ≤ maxLen ∧ ∀ c ∈ x.row, OkCl c) ∧ (x.fields.length ≤ maxLen ∧ ∀ c ∈ x.fields, OkFi c)
def OkTo (x : To) : Prop := True ∧ x.name.length ≤ maxLen ∧ (-9223372036854775808 ≤ x.id ∧ x.id ≤ 9223372036854775807)
theorem sh_toC : Shape Try.prog 74 toC OkTo :=
  Shape.map (shape_struct Try.underlying74 (by kernel_rfl) (shape_cons (k := 1) rfl (by kernel_rfl) sh_bool (by kernel_rfl) (shape_cons (k := 1) rfl (by kernel_rfl) sh_str (by kernel_rfl) (shape_one (k := 1) rfl (by kernel_rfl) sh_int)))) (fun p => ⟨p.1, p.2.1, p.2.2⟩) (fun _ => rfl) (fun _ h => h)
theorem sh_toCL : Shape Try.prog 48 (fun l : List To => [.sl 3 (enc toC l) none .no]) (fun l => l.length ≤ maxLen ∧ ∀ x ∈ l, OkTo x) := shape_slice Try.underlying48 (by kernel_rfl) (by decide) sh_toC (fun _ => rfl)
def OkOc (x : Oc) : Prop := (-9223372036854775808 ≤ x.kind ∧ x.kind ≤ 9223372036854775807) ∧ (-9223372036854775808 ≤ x.id ∧ x.id ≤ 9223372036854775807)
theorem sh_ocC : Shape Try.prog 132 ocC OkOc :=
  Shape.map (shape_struct Try.underlying132 (by kernel_rfl) (shape_cons (k := 1) rfl (by kernel_rfl) sh_int (by kernel_rfl) (shape_one (k := 1) rfl (by kernel_rfl) sh_int))) (fun p => ⟨p.1, p.2⟩) (fun _ => rfl) (fun _ h => h)
theorem sh_ocCL : Shape Try.prog 68 (fun l : List Oc => [.sl 2 (enc ocC l) none .no]) (fun l => l.length ≤ maxLen ∧ ∀ x ∈ l, OkOc x) := shape_slice Try.underlying68 (by kernel_rfl) (by decide) sh_ocC (fun _ => rfl)
def OkEn (x : En) : Prop := (-9223372036854775808 ≤ x.kind ∧ x.kind ≤ 9223372036854775807) ∧ True ∧ x.from_.length ≤ maxLen ∧ x.to.length ≤ maxLen ∧ (x.good.length ≤ maxLen ∧ ∀ c ∈ x.good, OkTo c) ∧ (x.bad.length ≤ maxLen ∧ ∀ c ∈ x.bad, OkTo c) ∧ (x.cache.length ≤ maxLen ∧ ∀ c ∈ x.cache, OkOc c) ∧ x.reply.length ≤ maxLen
theorem sh_enC : Shape Try.prog 71 enC OkEn :=
  Shape.map (shape_struct Try.underlying71 (by kernel_rfl) (shape_cons (k := 1) rfl (by kernel_rfl) sh_int (by kernel_rfl) (shape_cons (k := 1) rfl (by kernel_rfl) sh_bool (by kernel_rfl) (shape_cons (k := 1) rfl (by kernel_rfl) sh_str (by kernel_rfl) (shape_cons (k := 1) rfl (by kernel_rfl) sh_str (by kernel_rfl) (shape_cons (k := 1) rfl (by kernel_rfl) sh_toCL (by kernel_rfl) (shape_cons (k := 1) rfl (by kernel_rfl) sh_toCL (by kernel_rfl) (shape_cons (k := 1) rfl (by kernel_rfl) sh_ocCL (by kernel_rfl) (shape_one (k := 1) rfl (by kernel_rfl) sh_bytes))))))))) (fun p => ⟨p.1, p.2.1, p.2.2.1, p.2.2.2.1, p.2.2.2.2.1, p.2.2.2.2.2.1, p.2.2.2.2.2.2.1, p.2.2.2.2.2.2.2⟩) (fun _ => rfl) (fun _ h => h)
theorem sh_enCL : Shape Try.prog 49 (fun l : List En => [.sl 8 (enc enC l) none .no]) (fun l => l.length ≤ maxLen ∧ ∀ x ∈ l, OkEn x) := shape_slice Try.underlying49 (by kernel_rfl) (by decide) sh_enC (fun _ => rfl)
def OkVb (x : Vb) : Prop := (-9223372036854775808 ≤ x.kind ∧ x.kind ≤ 9223372036854775807) ∧ (-9223372036854775808 ≤ x.n ∧ x.n ≤ 9223372036854775807) ∧ x.code.length ≤ maxLen
def OkCf (x : Cf) : Prop := (-9223372036854775808 ≤ x.servers ∧ x.servers ≤ 9223372036854775807) ∧ (-9223372036854775808 ≤ x.cache ∧ x.cache ≤ 9223372036854775807) ∧ (-9223372036854775808 ≤ x.table ∧ x.table ≤ 9223372036854775807) ∧ (-9223372036854775808 ≤ x.message ∧ x.message ≤ 9223372036854775807) ∧ (-9223372036854775808 ≤ x.buffer ∧ x.buffer ≤ 9223372036854775807) ∧ (-9223372036854775808 ≤ x.queue ∧ x.queue ≤ 9223372036854775807) ∧ (x.params.length ≤ maxLen ∧ ∀ c ∈ x.params, OkPa c)
def OkEv (x : Ev) : Prop := (-9223372036854775808 ≤ x.kind ∧ x.kind ≤ 9223372036854775807) ∧ (-9223372036854775808 ≤ x.who ∧ x.who ≤ 9223372036854775807) ∧ (-9223372036854775808 ≤ x.n ∧ x.n ≤ 9223372036854775807) ∧ x.bytes.length ≤ maxLen
def OkSe (x : Se) : Prop := (-9223372036854775808 ≤ x.client ∧ x.client ≤ 9223372036854775807) ∧ (-9223372036854775808 ≤ x.index ∧ x.index ≤ 9223372036854775807) ∧ x.bytes.length ≤ maxLen
def OkCa (x : Ca) : Prop := (-9223372036854775808 ≤ x.client ∧ x.client ≤ 9223372036854775807) ∧ (-9223372036854775808 ≤ x.index ∧ x.index ≤ 9223372036854775807)
def OkNa (x : Na) : Prop := x.name.length ≤ maxLen ∧ (-9223372036854775808 ≤ x.id ∧ x.id ≤ 9223372036854775807)
theorem sh_naC : Shape Try.prog 78 naC OkNa :=
  Shape.map (shape_struct Try.underlying78 (by kernel_rfl) (shape_cons (k := 1) rfl (by kernel_rfl) sh_str (by kernel_rfl) (shape_one (k := 1) rfl (by kernel_rfl) sh_int))) (fun p => ⟨p.1, p.2⟩) (fun _ => rfl) (fun _ h => h)
theorem sh_naCL : Shape Try.prog 64 (fun l : List Na => [.sl 2 (enc naC l) none .no]) (fun l => l.length ≤ maxLen ∧ ∀ x ∈ l, OkNa x) := shape_slice Try.underlying64 (by kernel_rfl) (by decide) sh_naC (fun _ => rfl)
def OkCn (x : Cn) : Prop := (-9223372036854775808 ≤ x.id ∧ x.id ≤ 9223372036854775807) ∧ (-9223372036854775808 ≤ x.refs ∧ x.refs ≤ 9223372036854775807)
def OkCv (x : Cv) : Prop := (-9223372036854775808 ≤ x.phase ∧ x.phase ≤ 9223372036854775807) ∧ (-9223372036854775808 ≤ x.server ∧ x.server ≤ 9223372036854775807) ∧ (-9223372036854775808 ≤ x.done ∧ x.done ≤ 9223372036854775807) ∧ (x.table.length ≤ maxLen ∧ ∀ c ∈ x.table, OkNa c)
def OkSv (x : Sv) : Prop := (-9223372036854775808 ≤ x.state ∧ x.state ≤ 9223372036854775807) ∧ (-9223372036854775808 ≤ x.holder ∧ x.holder ≤ 9223372036854775807) ∧ (-9223372036854775808 ≤ x.queue ∧ x.queue ≤ 9223372036854775807) ∧ (0 ≤ x.status ∧ x.status < 256) ∧ x.cache.length ≤ maxLen ∧ x.pending.length ≤ maxLen
def OkVw (x : Vw) : Prop := (x.clients.length ≤ maxLen ∧ ∀ c ∈ x.clients, OkCv c) ∧ (x.servers.length ≤ maxLen ∧ ∀ c ∈ x.servers, OkSv c) ∧ (x.registry.length ≤ maxLen ∧ ∀ c ∈ x.registry, OkCn c) ∧ x.waiting.length ≤ maxLen
end Go.Proofs.Ytphgbfemigcalaa.Ax
/- A client's names over values without memory: what a table is, and its calls, but for All. -/
namespace Go.Proofs.Ytphgbfemigcalaa.Ax
open Go.RowKit Go By
set_option linter.unusedSimpArgs false
set_option linter.unusedVariables false
set_option maxRecDepth 10000

structure Tb where
  a : Nat
  most : Nat
  clock : Nat
  e : List (KE Int)
namespace Tb
def cells (T : Tb) : List AV := mapC T.clock (T.e.map (KE.ent intC))
def get (T : Tb) (k : List UInt8) : Option Int := KE.get k T.e
def full (T : Tb) (k : List UInt8) : Bool := !(T.get k).isSome && decide (T.most ≤ T.e.length)
def put (T : Tb) (k : List UInt8) (v : Int) : Tb := { T with clock := KE.tick k T.clock T.e, e := KE.put k T.clock v T.e }
def set (T : Tb) (k : List UInt8) (v : Int) : Tb := if T.full k = true then T else T.put k v
def del (T : Tb) (k : List UInt8) : Tb := { T with e := KE.del k T.e }
def old (T : Tb) (k : List UInt8) : Int := (T.get k).getD 0
def err (T : Tb) (k : List UInt8) : Int := if T.full k = true then 6 else 0
theorem set_a (T : Tb) (k : List UInt8) (v : Int) : (T.set k v).a = T.a := by unfold set; split <;> rfl
theorem set_most (T : Tb) (k : List UInt8) (v : Int) : (T.set k v).most = T.most := by unfold set; split <;> rfl
theorem old_full {T : Tb} {k : List UInt8} (h : T.full k = true) : T.old k = 0 := by
  unfold full at h
  unfold old
  cases hg : T.get k with
  | none => rfl
  | some v => rw [hg] at h; simp at h
end Tb
theorem intC_len (v : Int) : (intC v).length = 1 := rfl
theorem intC_plain (v : Int) : ∀ c ∈ intC v, c.idOf = none := fun c hc => by unfold intC at hc; rw [List.mem_singleton.1 hc]; rfl
structure TbAt (lo : Nat) (h : List (List AV)) (i : Nat) (T : Tb) : Prop where
  top : h[i]? = some [.mp T.a 1 true, .v (.int .i64 (T.most : Int))]
  ents : h[T.a]? = some T.cells
  low : lo ≤ i ∧ lo ≤ T.a
  apart : i ≠ T.a
  lt : ltLL h.length h
structure TbOk (T : Tb) : Prop where
  ok : KE.Ok T.clock T.e
  len : T.e.length ≤ T.most
  most : 1 ≤ T.most ∧ T.most ≤ 4096
theorem Tb.of_cells (T : Tb) : mapOf 1 T.cells = some (T.clock, T.e.map (KE.ent intC)) := KE.ents_of intC_len _ _
theorem Tb.keys (T : Tb) : keysOk none (T.e.map (KE.ent intC)) := KE.ents_keys intC_plain _
theorem Tb.plain (T : Tb) : ∀ c ∈ T.cells, c.idOf = none := KE.ents_plain intC_plain _ _
theorem mapC_lt {l : List AEnt} {n t : Nat} (h : ∀ e ∈ l, ltL n e.cells) : ltL n (mapC t l) := by
  refine ltL_of fun j c hj => ?_
  have hc := List.mem_of_getElem? hj
  unfold mapC at hc
  rcases List.mem_cons.1 hc with rfl | hc
  · trivial
  rcases List.mem_cons.1 hc with rfl | hc
  · trivial
  obtain ⟨e, he, hc⟩ := List.mem_flatMap.1 hc
  unfold AEnt.avs at hc
  rcases List.mem_cons.1 hc with rfl | hc
  · trivial
  rcases List.mem_cons.1 hc with rfl | hc
  · trivial
  obtain ⟨q, hq⟩ := List.getElem?_of_mem hc
  exact ltL_get (h e he) q c hq
theorem Tb.lt (T : Tb) (n : Nat) : ltL n T.cells := mapC_lt fun e he => by obtain ⟨s, _, rfl⟩ := List.mem_map.1 he; simp [KE.ent, intC]
theorem Tb.found (T : Tb) (k : List UInt8) : found true true [.v (.int .i64 0)] (AEnt.find (.string (strB k)) (T.e.map (KE.ent intC)) 0) = .tup [.v (.int .i64 (T.old k)), .v (.bool (T.get k).isSome)] := by
  rw [KE.found_eq]
  unfold Tb.old Tb.get
  cases KE.get k T.e <;> rfl
theorem Tb.found1 (T : Tb) (k : List UInt8) : Ax.found true false [.v (.int .i64 0)] (AEnt.find (.string (strB k)) (T.e.map (KE.ent intC)) 0) = .v (.int .i64 (T.old k)) := by
  rw [KE.found_eq]
  unfold Tb.old Tb.get
  cases KE.get k T.e <;> rfl
section
variable {lo : Nat} {h : List (List AV)} {i : Nat} {T : Tb}
theorem TbAt.i_lt (ht : TbAt lo h i T) : i < h.length := (List.getElem?_eq_some_iff.1 ht.top).1
theorem TbAt.a_lt (ht : TbAt lo h i T) : T.a < h.length := (List.getElem?_eq_some_iff.1 ht.ents).1
theorem TbAt.move (ht : TbAt lo h i T) {h' : List (List AV)} (h1 : h'[i]? = h[i]?) (h2 : h'[T.a]? = h[T.a]?) (hlt : ltLL h'.length h') : TbAt lo h' i T :=
  ⟨h1.trans ht.top, h2.trans ht.ents, ht.low, ht.apart, hlt⟩
theorem TbAt.app (ht : TbAt lo h i T) (xs : List (List AV)) (hx : ltLL (h.length + xs.length) xs) : TbAt lo (h ++ xs) i T :=
  ht.move (List.getElem?_append_left ht.i_lt) (List.getElem?_append_left ht.a_lt) (by rw [ltLL_append, List.length_append]; exact ⟨ltLL_mono (Nat.le_add_right _ _) ht.lt, hx⟩)
theorem TbAt.to (ht : TbAt lo h i T) {T' : Tb} (ha : T'.a = T.a) (hm : T'.most = T.most) : TbAt lo (h.set T.a T'.cells) i T' := by
  refine ⟨?_, ?_, by rw [ha]; exact ht.low, by rw [ha]; exact ht.apart, ?_⟩
  · rw [List.getElem?_set_ne (Ne.symm ht.apart), ht.top, ha, hm]
  · rw [ha, List.getElem?_set_self ht.a_lt]
  · rw [List.length_set]; exact ltLL_set ht.lt (T'.lt _)
theorem TbAt.set_self (ht : TbAt lo h i T) : h.set T.a T.cells = h := by
  obtain ⟨h1, h2⟩ := List.getElem?_eq_some_iff.1 ht.ents
  rw [← h2, List.set_getElem_self]
theorem TbOk.put (ho : TbOk T) {k : List UInt8} (hf : T.full k = false) (v : Int) : TbOk (T.put k v) := by
  refine ⟨KE.put_ok ho.ok k v, ?_, ho.most⟩
  show (KE.put k T.clock v T.e).length ≤ T.most
  rw [KE.put_len]
  have := ho.len
  unfold Tb.full Tb.get at hf
  split
  · exact this
  · rename_i hg
    simp [hg] at hf
    omega
theorem TbOk.set (ho : TbOk T) (k : List UInt8) (v : Int) : TbOk (T.set k v) := by
  unfold Tb.set
  split
  · exact ho
  · rename_i hf
    exact ho.put (by simpa using hf) v
theorem TbOk.del (ho : TbOk T) (k : List UInt8) : TbOk (T.del k) :=
  ⟨KE.del_ok ho.ok k, Nat.le_trans (KE.del_len k T.e) ho.len, ho.most⟩
theorem tget_c (ht : TbAt lo h i T) (k : List UInt8) : Contract Try.prog 17 [.box i 0, .v (.string (strB k))] h (.tup [.v (.int .i64 (T.old k)), .v (.bool (T.get k).isSome)]) h [] := by
  have h1 := ht.top
  have h2 := ht.ents
  have h3 := T.of_cells
  have h4 := T.keys
  have h5 := T.found k
  refine contract_of k17 mixed (by simp [c17]) fun hh hargs => ?_
  simp [c17, h1, h2, h3, h4, h5, hh]
theorem tlen_c (ht : TbAt lo h i T) : Contract Try.prog 20 [.box i 0] h (.v (.int .i64 (T.e.length : Int))) h [] := by
  have h1 := ht.top
  have h2 := ht.ents
  have h3 := T.of_cells
  refine contract_of k20 mixed (by simp [c20]) fun hh hargs => ?_
  simp [c20, h1, h2, h3, hh]
theorem tset_c (ht : TbAt lo h i T) (ho : TbOk T) (k : List UInt8) (hk : k.length ≤ 281474976710656) (v : Int) : Contract Try.prog 13 [.box i 0, .v (.string (strB k)), .v (.int .i64 v)] h (.tup [.v (.int .i64 (T.old k)), .v (.int .i64 (T.err k))]) (h.set T.a (T.set k v).cells) [T.a] := by
  have h1 := ht.top
  have h2 := ht.ents
  have h3 := T.of_cells
  have h4 := T.keys
  have h5 := T.found k
  have hi := ht.i_lt
  have ha := ht.a_lt
  have he : ∀ q : T.a < h.length, h[T.a] = T.cells := fun q => by have := ht.ents; rw [List.getElem?_eq_getElem q] at this; injection this
  have hne := ht.apart
  cases hf : T.full k with
  | true =>
    have hset : T.set k v = T := by unfold Tb.set; rw [if_pos hf]
    have hold := Tb.old_full hf
    have herr : T.err k = 6 := by unfold Tb.err; rw [if_pos hf]
    have hn : (T.get k).isSome = false := by unfold Tb.full at hf; simp at hf; simp [hf.1]
    have hle : T.most ≤ T.e.length := by unfold Tb.full at hf; simp at hf; exact hf.2
    rw [hset, ht.set_self, hold, herr]
    rw [hn, hold] at h5
    refine contract_of k13 mixed (by simp [c13]) fun hh hargs => ?_
    simp [c13, h1, h2, h3, h4, h5, hle, hh]
  | false =>
    have hset : T.set k v = T.put k v := by unfold Tb.set; rw [if_neg (by simp [hf])]
    have herr : T.err k = 0 := by unfold Tb.err; rw [if_neg (by simp [hf])]
    have hput : mapC (AEnt.put (.string (strB k)) T.clock (intC v) (T.e.map (KE.ent intC))).2 (AEnt.put (.string (strB k)) T.clock (intC v) (T.e.map (KE.ent intC))).1 = (T.put k v).cells := by rw [KE.put_eq intC ho.ok]; rfl
    have hiv : intC v = [.v (.int .i64 v)] := rfl
    rw [hiv] at hput
    rw [hset, herr]
    have hlt := ht.lt
    have hl2 := (T.put k v).lt h.length
    have hcase : (T.get k).isSome = true ∨ ((T.get k).isSome = false ∧ ¬ T.most ≤ T.e.length) := by
      unfold Tb.full at hf
      cases hg : (T.get k).isSome with
      | true => exact .inl rfl
      | false => rw [hg] at hf; simp at hf; exact .inr ⟨rfl, by omega⟩
    rcases hcase with hg | ⟨hg, hle⟩
    · rw [hg] at h5
      refine contract_of k13 mixed (by simp [c13]) fun hh hargs => ?_
      simp [c13, h1, h2, h3, h4, h5]
      refine xcall_self (by simp) (sclone_c k hk _) ?_
      simp [h1, h2, h3, h4, hput, hh, ha, he, ltLL_set, hlt, hl2]
      done
    · rw [hg] at h5
      refine contract_of k13 mixed (by simp [c13]) fun hh hargs => ?_
      simp [c13, h1, h2, h3, h4, h5, hle]
      refine xcall_self (by simp) (sclone_c k hk _) ?_
      simp [h1, h2, h3, h4, hput, hh, ha, he, ltLL_set, hlt, hl2]
      done
theorem tdel_c (ht : TbAt lo h i T) (k : List UInt8) : Contract Try.prog 15 [.box i 0, .v (.string (strB k))] h (.tup [.v (.int .i64 (T.old k)), .v (.bool (T.get k).isSome)]) (h.set T.a (T.del k).cells) [T.a] := by
  have h1 := ht.top
  have h2 := ht.ents
  have h3 := T.of_cells
  have h4 := T.keys
  have ha := ht.a_lt
  have he : ∀ q : T.a < h.length, h[T.a] = T.cells := fun q => by have := ht.ents; rw [List.getElem?_eq_getElem q] at this; injection this
  have hlt := ht.lt
  have hl2 := (T.del k).lt h.length
  have hdel : mapC T.clock (AEnt.del (.string (strB k)) (T.e.map (KE.ent intC))) = (T.del k).cells := by rw [KE.del_eq]; rfl
  have hno : (T.get k).isSome = false → h.set T.a (T.del k).cells = h := fun hn => by
    have : T.del k = T := by
      unfold Tb.del
      have : KE.del k T.e = T.e := List.eraseP_of_forall_not fun x hx => by
        have := KE.get_none_iff.1 (show KE.get k T.e = none by unfold Tb.get at hn; simpa using hn) x hx
        simpa using this
      rw [this]
    rw [this, ht.set_self]
  refine contract_of k15 mixed (by simp [c15]) fun hh hargs => ?_
  simp [c15]
  refine xcall_self (by simp) (tget_c ht k) ?_
  cases hg : (T.get k).isSome with
  | true =>
    simp [h1, h2, h3, h4, hdel, hh, ha, he, ltLL_set, hlt, hl2]
    done
  | false =>
    rw [hno hg]
    simp [hh]
    done
end
end Go.Proofs.Ytphgbfemigcalaa.Ax
/- A client's names over values without memory: New, All; a table that no call made. -/
namespace Go.Proofs.Ytphgbfemigcalaa.Ax
open Go.RowKit Go By
set_option linter.unusedSimpArgs false
set_option linter.unusedVariables false
set_option maxRecDepth 10000

def newT (h : List (List AV)) (most : Nat) : Tb := ⟨h.length, most, 0, []⟩
def newTH (h : List (List AV)) (most : Nat) : List (List AV) := h ++ [(newT h most).cells, [.mp h.length 1 true, .v (.int .i64 (most : Int))]]
theorem newT_at {h : List (List AV)} (hh : ltLL h.length h) (most : Nat) (lo : Nat) (hlo : lo ≤ h.length) : TbAt lo (newTH h most) (h.length + 1) (newT h most) := by
  refine ⟨?_, ?_, ⟨by omega, hlo⟩, by show h.length + 1 ≠ h.length; omega, ?_⟩
  · unfold newTH; rw [List.getElem?_append_right (by omega), show h.length + 1 - h.length = 1 by omega]; rfl
  · show (newTH h most)[h.length]? = _
    unfold newTH; rw [List.getElem?_append_right (by omega), Nat.sub_self]; rfl
  · unfold newTH
    have h1 := (newT h most).lt (h.length + 2)
    simp [ltLL_mono (Nat.le_add_right h.length 2) hh, h1]
theorem newT_ok (h : List (List AV)) {most : Nat} (h1 : 1 ≤ most) (h2 : most ≤ 4096) : TbOk (newT h most) :=
  ⟨⟨List.nodup_nil, List.nodup_nil, fun x hx => by cases hx⟩, Nat.zero_le _, h1, h2⟩
theorem tnew_c {most : Nat} (h1 : 1 ≤ most) (h2 : most ≤ 4096) (h : List (List AV)) : Contract Try.prog 11 [.v (.int .i64 (most : Int))] h (.tup [.box (h.length + 1) 0, .v (.int .i64 0)]) (newTH h most) [] := by
  refine contract_of k11 mixed (by simp [c11]) fun hh hargs => ?_
  have n1 : ¬ (most : Int) < 1 := by omega
  have n2 : ¬ (most : Int) > 4096 := by omega
  have hl := ltLL_mono (Nat.le_add_right h.length 2) hh
  simp [c11, n1, n2, newTH, newT, Tb.cells, mapC, hl]
theorem tnew_no {most : Int} (hm : most < 1 ∨ most > 4096) (h : List (List AV)) : Contract Try.prog 11 [.v (.int .i64 most)] h (.tup [.v (.pointer none), .v (.int .i64 1)]) h [] := by
  refine contract_of k11 mixed (by simp [c11]) fun hh hargs => ?_
  by_cases n1 : most < 1
  · simp [c11, n1, hh]
  · have n2 : most > 4096 := by omega
    simp [c11, n1, n2, hh]
def Tb.names (T : Tb) : List (List UInt8) := sortS (T.e.map KE.key)
theorem names_len (T : Tb) : T.names.length = T.e.length := by unfold Tb.names sortS; rw [List.length_mergeSort, List.length_map]
theorem encS_vE (l : List (List UInt8)) : vE (strV l) = enc strC l := by
  unfold vE strV enc
  rw [List.map_map]
  rfl
section
variable {lo : Nat} {h : List (List AV)} {i : Nat} {T : Tb}
theorem trising_c (ht : TbAt lo h i T) (ho : TbOk T) (hp : plainH h) : Contract Try.prog 36 [.box i 0] h (.sl 1 (enc strC T.names) none .no) h [] := by
  have hi := ht.i_lt
  have hla := ht.a_lt
  have e1 := ht.top
  have e2 := ht.ents
  have e3 := T.of_cells
  have g2 : ∀ xs, (h ++ xs)[T.a]? = some T.cells := fun xs => by rw [List.getElem?_append_left hla]; exact e2
  have hlen : T.e.length ≤ 4096 := Nat.le_trans ho.len ho.most.2
  refine contract_of k36 mixed (by simp [c36]) fun hh hargs => ?_
  simp [c36, e1, e2, e3]
  refine ⟨by omega, by omega, ?_⟩
  refine xloop_ok (D := List (KE Int)) (fun seen => ⟨[(0, .box i 0), (17, .itr h.length (some T.a) 1 true)], [(3, .sl 1 (enc strC (seen.map KE.key)) none (.own (.new 3)))], h ++ [itC T.clock T.clock (seen.map KE.born)], []⟩) (fun seen => KE.Seen T.e seen) (fun seen => T.e.length - seen.length) [] ⟨List.nodup_nil, fun x hx => by cases hx⟩ ?_ ?_
  · simp [Leq, hh, hargs, hi, hla, leqH_take, itC]
    omega
  · intro seen hs
    simp [g2, e3]
    refine ⟨fun a ha => ho.ok.lt a ha, fun hall => ?_, ?_⟩
    · have hperm := hs.perm ho.ok fun x hx => hall x hx
      have hlen2 : (seen.map KE.key).length ≤ 4096 := by rw [List.length_map, hperm.length_eq]; exact hlen
      have hsort : sortS (seen.map KE.key) = T.names := by
        unfold Tb.names
        have hp2 : (seen.map KE.key).Perm (T.e.map KE.key) := hperm.map _
        have h1 : (sortS (seen.map KE.key)).Perm (sortS (T.e.map KE.key)) := (List.mergeSort_perm ..).trans (hp2.trans (List.mergeSort_perm ..).symm)
        have so : ∀ l : List (List UInt8), (sortS l).Pairwise (fun x y => decide (x ≤ y) = true) := fun l => List.pairwise_mergeSort (fun a b c h1 h2 => by simp at *; exact List.le_trans h1 h2) (fun a b => by simp; exact List.le_total a b) _
        exact h1.eq_of_pairwise (fun a b _ _ h1 h2 => by simp at h1 h2; exact List.le_antisymm h1 h2) (so _) (so _)
      refine ⟨strV (seen.map KE.key), strV (sortS (seen.map KE.key)), 1, none, .own (.new 3), by rw [encS_vE]; rfl, .inl ⟨rfl, _, rfl, rfl⟩, sort_strs (seen.map KE.key) (by omega), ⟨by simp, hp⟩, by simp, ?_⟩
      rw [encS_vE, hsort]
      have hres : ∀ m (es : List (List AV)), resOf m (.sl 1 es none (.own (.new 2))) = .sl 1 es none (.own .res) := fun _ _ => rfl
      simp [St.sorted, St.calm, hh, hres]
      done
    · intro a ha hnew
      have hb := KE.at_born (f := intC) ho.ok.borns ha
      have hkey : (KE.ent intC a).key = .string (strB a.key) := rfl
      have hborn : (KE.ent intC a).born = a.born := rfl
      have hout : a ∉ seen := fun hx => hnew a hx rfl
      have hs2 := hs.snoc ha hout
      have hle := hs2.le
      simp at hle
      simp [hb, hkey, hborn]
      refine ⟨by omega, by omega, seen ++ [a], hs2, by simp; omega, ?_⟩
      simp [Leq, hh, hargs, hi, hla, leqH_take, itC, strC, enc, KE.ent]
      refine ⟨ltL_of fun j c hc => ?_, ltLL_of' fun j c hc => ?_, by omega, by omega⟩
      · obtain ⟨b, _, rfl⟩ := List.mem_map.1 (List.mem_of_getElem? hc); simp
      · obtain ⟨b, _, rfl⟩ := List.mem_map.1 (List.mem_of_getElem? hc); simp [strC]
def Tb.nameAt (T : Tb) (j : Nat) : List UInt8 := T.names.getD j []
def Tb.told (T : Tb) (j : Nat) : List AV := [.v (.string (strB (T.nameAt j))), .v (.int .i64 (T.old (T.nameAt j)))]
/-- A heap with a table, and with a variable that leads to it. -/
structure TbV (i0 lo i L : Nat) (T : Tb) (H : List (List AV)) : Prop where
  len : H.length = L
  var : H[i0]? = some [.box i 0]
  tab : TbAt lo H i T
  plain : plainH H
theorem tall_c (hi : i < h.length) : Contract Try.prog 21 [.box i 0] h (.fn (.func 35) [] [.box h.length 0]) (h ++ [[.box i 0]]) [] := by
  refine contract_of k21 mixed (by simp [c21]) fun hh hargs => ?_
  simp [c21, hh, hi]
  omega
theorem tall_iter (ho : TbOk T) (i0 L : Nat) : Iter Try.prog 35 [.box i0 0] T.names.length T.told true (TbV i0 lo i L T) := by
  intro iy r c slots H wr hR hY
  have h0 := (hR 0 (by omega)).len
  have hL : ∀ j, j ≤ T.names.length → (H j).length = L := fun j hj => (hR j hj).len
  have hT : ∀ j, j ≤ T.names.length → ltLL L (H j) := fun j hj => by have := (hR j hj).tab.lt; rw [hL j hj] at this; exact this
  have hI : ∀ j, j ≤ T.names.length → (H j)[i0]? = some [.box i 0] := fun j hj => (hR j hj).var
  have hil : i < L := by have := (hR 0 (by omega)).tab.i_lt; omega
  refine contract_of k35 mixed (by simp [c35]) fun hh hargs => ?_
  rw [h0] at hh hargs ⊢
  simp at hargs
  have hlen2 : T.names.length ≤ 4096 := by rw [names_len]; exact Nat.le_trans ho.len ho.most.2
  simp [c35, hI 0 (by omega)]
  refine xcall_self (by simp) (trising_c (hR 0 (by omega)).tab ho (hR 0 (by omega)).plain) ?_
  simp
  refine xloop_ok (D := Nat) (fun j => ⟨[(0, .yld iy r c slots), (1, .box i0 0), (6, .sl 1 (enc strC T.names) none .no), (7, .v (.int .i64 (T.names.length : Int))), (8, .v (.int .i64 (j : Int)))], [], H j, wr⟩) (fun j => j ≤ T.names.length) (fun j => T.names.length - j) 0 (by omega) ?_ ?_
  · simp [Leq, hh, h0, hargs, leqH_take]
    done
  · intro j hj
    by_cases hlt : j < T.names.length
    · have hx : T.nameAt j = T.names[j] := by unfold Tb.nameAt; rw [List.getD_eq_getElem?_getD, List.getElem?_eq_getElem hlt]; rfl
      have e1 := (hR j hj).tab.top
      have e2 := (hR j hj).tab.ents
      have e3 := T.of_cells
      have e4 := T.keys
      have e5 := T.found1 (T.names[j])
      simp [hlt, strC, hI j hj, e1, e2, e3, e4, e5]
      rw [← hx]
      refine xyield_self (by simp) (hY j hlt) ?_
      have hw : IntKind.i64.wrap ((j : Int) + 1) = (j : Int) + 1 := wrap64 (by omega) (by omega)
      have h1 := hL j hj
      have h2 := hL (j + 1) (by omega)
      have h3 := hT (j + 1) (by omega)
      simp [hw]
      refine ⟨j + 1, by omega, by omega, ?_⟩
      simp [Leq, h0, h2, h3, hargs, leqH_take, sub_self]
      done
    · have : j = T.names.length := by omega
      subst this
      have h2 := hL _ hj
      have h3 := hT _ hj
      simp [h2, h3, leqH_take, sub_self]
/-! ### A table that no call made -/
def zeroT : List AV := [.v (.map none), .v (.int .i64 0)]
theorem ntset_c (k : List UInt8) (v : Int) : Contract Try.prog 13 [.v (.pointer none), .v (.string (strB k)), .v (.int .i64 v)] h (.tup [.v (.int .i64 0), .v (.int .i64 2)]) h [] := by
  refine contract_of k13 mixed (by simp [c13]) fun hh hargs => ?_
  simp [c13, hh]
theorem ztset_c (hi : h[i]? = some zeroT) (k : List UInt8) (v : Int) : Contract Try.prog 13 [.box i 0, .v (.string (strB k)), .v (.int .i64 v)] h (.tup [.v (.int .i64 0), .v (.int .i64 2)]) h [] := by
  unfold zeroT at hi
  refine contract_of k13 mixed (by simp [c13]) fun hh hargs => ?_
  simp [c13, hi, hh]
theorem ntget_c (k : List UInt8) : Contract Try.prog 17 [.v (.pointer none), .v (.string (strB k))] h (.tup [.v (.int .i64 0), .v (.bool false)]) h [] := by
  refine contract_of k17 mixed (by simp [c17]) fun hh hargs => ?_
  simp [c17, hh]
theorem ztget_c (hi : h[i]? = some zeroT) (k : List UInt8) : Contract Try.prog 17 [.box i 0, .v (.string (strB k))] h (.tup [.v (.int .i64 0), .v (.bool false)]) h [] := by
  unfold zeroT at hi
  refine contract_of k17 mixed (by simp [c17]) fun hh hargs => ?_
  simp [c17, hi, hh]
theorem ntdel_c (k : List UInt8) : Contract Try.prog 15 [.v (.pointer none), .v (.string (strB k))] h (.tup [.v (.int .i64 0), .v (.bool false)]) h [] := by
  refine contract_of k15 mixed (by simp [c15]) fun hh hargs => ?_
  simp [c15]
  refine xcall_self (by simp) (ntget_c k) ?_
  simp [hh]
theorem ztdel_c (hi : h[i]? = some zeroT) (k : List UInt8) : Contract Try.prog 15 [.box i 0, .v (.string (strB k))] h (.tup [.v (.int .i64 0), .v (.bool false)]) h [] := by
  refine contract_of k15 mixed (by simp [c15]) fun hh hargs => ?_
  simp [c15]
  refine xcall_self (by simp) (ztget_c hi k) ?_
  simp [hh]
theorem ntlen_c : Contract Try.prog 20 [.v (.pointer none)] h (.v (.int .i64 0)) h [] := by
  refine contract_of k20 mixed (by simp [c20]) fun hh hargs => ?_
  simp [c20, hh]
theorem ztlen_c (hi : h[i]? = some zeroT) : Contract Try.prog 20 [.box i 0] h (.v (.int .i64 0)) h [] := by
  unfold zeroT at hi
  refine contract_of k20 mixed (by simp [c20]) fun hh hargs => ?_
  simp [c20, hi, hh]
theorem ntall_c : Contract Try.prog 21 [.v (.pointer none)] h (.fn (.func 35) [] [.box h.length 0]) (h ++ [[.v (.pointer none)]]) [] := by
  refine contract_of k21 mixed (by simp [c21]) fun hh hargs => ?_
  simp [c21, hh]
theorem ntrising_c : Contract Try.prog 36 [.v (.pointer none)] h (.sl 1 [] none .no) h [] := by
  refine contract_of k36 mixed (by simp [c36]) fun hh hargs => ?_
  simp [c36, hh]
end
theorem ntall_iter (i0 : Nat) (xs : Nat → List AV) : Iter Try.prog 35 [.box i0 0] 0 xs true (fun H => H[i0]? = some [.v (.pointer none)] ∧ ltLL H.length H) := by
  intro iy r c slots H wr hR hY
  obtain ⟨h1, h2⟩ := hR 0 (by omega)
  refine contract_of k35 mixed (by simp [c35]) fun hh hargs => ?_
  simp at hargs
  simp [c35, h1]
  refine xcall_self (by simp) ntrising_c ?_
  simp
  refine xloop_ok (D := Unit) (fun _ => ⟨[(7, .v (.int .i64 0)), (8, .v (.int .i64 0))], [], H 0, []⟩) (fun _ => True) (fun _ => 0) () trivial ?_ ?_
  · simp [Leq, hh, leqH_take]
  · intro _ _
    simp [h2, leqH_take]
theorem newTH_set (h : List (List AV)) (most : Nat) (c : List AV) : (newTH h most).set h.length c = h ++ [c, [.mp h.length 1 true, .v (.int .i64 (most : Int))]] := by
  unfold newTH
  rw [List.set_append_right _ _ (Nat.le_refl _), Nat.sub_self]
  rfl
theorem tawake_c (h : List (List AV)) : Contract Try.prog 10 [] h (.v (.bool true)) h [] := by
  refine contract_of k10 mixed (by simp [c10]) fun hh hargs => ?_
  have a0 := newT_at hh 1 0 (Nat.zero_le _)
  have o0 := newT_ok h (most := 1) (by omega) (by omega)
  have q0 : (newT h 1).old [97] = 0 := rfl
  have r0 : (newT h 1).err [97] = 0 := rfl
  have a1 := a0.to (Tb.set_a (newT h 1) [97] 1) (Tb.set_most _ _ _)
  have o1 := o0.set [97] 1
  obtain ⟨T1, hT1⟩ : ∃ T1, T1 = (newT h 1).set [97] 1 := ⟨_, rfl⟩
  have e1 : T1 = ⟨h.length, 1, 1, [⟨[97], 0, 1⟩]⟩ := hT1
  have s1 := tset_c a0 o0 [97] (by simp) 1
  rw [q0, r0] at s1
  rw [← hT1] at a1 o1 s1
  have q1 : T1.old [97] = 1 := by rw [e1]; rfl
  have r1 : T1.err [97] = 0 := by rw [e1]; rfl
  have a2 := a1.to (Tb.set_a T1 [97] 2) (Tb.set_most _ _ _)
  have o2 := o1.set [97] 2
  have s2 := tset_c a1 o1 [97] (by simp) 2
  rw [q1, r1] at s2
  obtain ⟨T2, hT2⟩ : ∃ T2, T2 = T1.set [97] 2 := ⟨_, rfl⟩
  have e2 : T2 = ⟨h.length, 1, 1, [⟨[97], 0, 2⟩]⟩ := by rw [hT2, e1]; rfl
  rw [← hT2] at a2 o2 s2
  have q2 : T2.old [98] = 0 := by rw [e2]; rfl
  have r2 : T2.err [98] = 6 := by rw [e2]; rfl
  have a3 := a2.to (Tb.set_a T2 [98] 3) (Tb.set_most _ _ _)
  have s3 := tset_c a2 o2 [98] (by simp) 3
  rw [q2, r2] at s3
  obtain ⟨T3, hT3⟩ : ∃ T3, T3 = T2.set [98] 3 := ⟨_, rfl⟩
  have e3 : T3 = ⟨h.length, 1, 1, [⟨[97], 0, 2⟩]⟩ := by rw [hT3, e2]; rfl
  rw [← hT3] at a3 s3
  have s4 := tlen_c a3
  rw [show T3.e.length = 1 by rw [e3]; rfl] at s4
  have b0 : (newT h 1).a = h.length := rfl
  have b1 : T1.a = h.length := by rw [e1]
  have b2 : T2.a = h.length := by rw [e2]
  rw [b0] at s1 s2 s3 s4
  rw [b1] at s2 s3 s4
  rw [b2] at s3 s4
  simp only [List.set_set] at s2 s3 s4
  simp [c10]
  refine xcall_self (by simp) (tnew_c (most := 1) (by omega) (by omega) h) ?_
  simp
  refine xcall_self (by simp) s1 ?_
  simp
  refine xcall_self (by simp) s2 ?_
  simp
  refine xcall_self (by simp) s3 ?_
  simp
  refine xcall_self (by simp) s4 ?_
  simp [newTH_set, hh]
  done
theorem tnobody_c (k : List UInt8) (v : Int) : Contract Try.prog 5 [.v (.string (strB k)), .v (.int .i64 v)] [] (.v (.bool true)) [] [] := by
  refine contract_of k5 mixed (by simp [c5]) fun hh hargs => ?_
  simp [c5]
  refine xcall_self (by simp) (tawake_c _) ?_
  simp
  refine xcall_self (by simp) (ntset_c k v) ?_
  simp
  refine xcall_self (by simp) (ztset_c (by simp [zeroT]) k v) ?_
  simp
  refine xcall_self (by simp) (ntget_c k) ?_
  simp
  refine xcall_self (by simp) (ztdel_c (by simp [zeroT]) k) ?_
  simp
  refine xcall_self (by simp) ntall_c ?_
  simp
  refine xrange_all (ntall_iter 2 (fun _ => [])) (fun _ => _) [] (by simp) (by simp) (fun _ => by simp [XCode.okIn]) (fun _ => by simp [XCode.okIn]) rfl (fun _ _ => rfl) (fun _ _ => ⟨by simp, by simp [lstate]⟩) (by simp) (fun j hj => absurd hj (by omega)) ?_
  simp
  refine xcall_self (by simp) ntlen_c ?_
  simp
  refine xcall_self (by simp) (ztlen_c (by simp [zeroT])) ?_
  simp
  refine xcall_self (by simp) (tawake_c _) ?_
  simp
  done
end Go.Proofs.Ytphgbfemigcalaa.Ax
namespace Go.Proofs.Ytphgbfemigcalaa.Ax
open Go.RowKit Go By
set_option linter.unusedSimpArgs false
set_option linter.unusedVariables false
set_option maxRecDepth 10000

structure Td where
  op : Int
  name : List UInt8
  id : Int
def tdC (d : Td) : List AV := [.v (.int .i64 d.op), .v (.string (strB d.name)), .v (.int .i64 d.id)]
@[simp] theorem tdC_lt (n : Nat) (l : List Td) : ltLL n (enc tdC l) = True := eq_true (ltLL_of' fun j e he => by obtain ⟨s, _, rfl⟩ := List.mem_map.1 (List.mem_of_getElem? he); simp [tdC])
def OkTd (d : Td) : Prop := (-9223372036854775808 ≤ d.op ∧ d.op ≤ 9223372036854775807) ∧ d.name.length ≤ maxLen ∧ (-9223372036854775808 ≤ d.id ∧ d.id ≤ 9223372036854775807)
theorem sh_tdC : Shape Try.prog 32 tdC OkTd :=
  Shape.map (shape_struct Try.underlying32 (by kernel_rfl) (shape_cons (k := 1) rfl (by kernel_rfl) sh_int (by kernel_rfl) (shape_cons (k := 1) rfl (by kernel_rfl) sh_str (by kernel_rfl) (shape_one (k := 1) rfl (by kernel_rfl) sh_int)))) (fun p => ⟨p.1, p.2.1, p.2.2⟩) (fun p => rfl) (fun _ h => h)
theorem sh_tdCL : Shape Try.prog 22 (fun l : List Td => [.sl 3 (enc tdC l) none .no]) (fun l => l.length ≤ maxLen ∧ ∀ x ∈ l, OkTd x) := shape_slice Try.underlying22 (by kernel_rfl) (by decide) sh_tdC (fun _ => rfl)
theorem Tb.get_set {T : Tb} (ho : TbOk T) (k : List UInt8) (v : Int) (k' : List UInt8) : (T.set k v).get k' = if T.full k = true then T.get k' else if k' = k then some v else T.get k' := by
  unfold Tb.set
  split
  · rfl
  · exact KE.get_put ho.ok k v k'
theorem Tb.get_del {T : Tb} (ho : TbOk T) (k k' : List UInt8) : (T.del k).get k' = if k' = k then none else T.get k' := KE.get_del ho.ok k k'
def HT (T : Tb) : List (List AV) := [T.cells, [.mp 0 1 true, .v (.int .i64 (T.most : Int))]]
theorem HT_at {T : Tb} (ha : T.a = 0) : TbAt 0 (HT T) 1 T := by
  have := T.lt 2
  refine ⟨by unfold HT; rw [ha]; rfl, by unfold HT; rw [ha]; rfl, ⟨Nat.zero_le _, Nat.zero_le _⟩, by rw [ha]; omega, by simp [HT, this]⟩
theorem HT_new (most : Nat) : newTH [] most = HT (newT [] most) := rfl
structure TK where
  T : Tb
  j : Nat
structure TK.Ok (n : Nat) (name : List UInt8) (id : Int) (d : TK) : Prop where
  le : d.j ≤ n
  a : d.T.a = 0
  most : d.T.most = 20
  ok : TbOk d.T
  has : d.T.get name = some id
theorem tkeeps_c (l : List Td) (name : List UInt8) (id : Int) : Contract Try.prog 4 [.sl 3 (enc tdC l) none .no, .v (.string (strB name)), .v (.int .i64 id)] [] (.v (.bool true)) [] [] := by
  refine contract_of k4 mixed (by simp [c4]) fun hh hargs => ?_
  simp [c4]
  refine xcall_self (by simp) (tnew_c (most := 20) (by omega) (by omega) _) ?_
  by_cases hn : name.length > 300
  · have : 300 < (name.length : Int) := by omega
    simp [strB_size, this]
    refine xcall_self (by simp) (tawake_c _) ?_
    simp
  by_cases hl : l.length > 80
  · have h1 : ¬ 300 < (name.length : Int) := by omega
    have : 80 < (l.length : Int) := by omega
    simp [strB_size, this, h1]
    refine xcall_self (by simp) (tawake_c _) ?_
    simp
  have n1 : ¬ 300 < (name.length : Int) := by omega
  have n2 : ¬ 80 < (l.length : Int) := by omega
  have a0 := HT_at (T := newT [] 20) rfl
  have o0 := newT_ok [] (most := 20) (by omega) (by omega)
  have f0 : (newT [] 20).full name = false := rfl
  have a1 : ((newT [] 20).set name id).a = 0 := Tb.set_a _ _ _
  have m1 : ((newT [] 20).set name id).most = 20 := Tb.set_most _ _ _
  have o1 := o0.set name id
  have g1 : ((newT [] 20).set name id).get name = some id := by rw [Tb.get_set o0, f0]; simp
  have s1 := tset_c a0 o0 name (by omega) id
  have e1 : (HT (newT [] 20)).set (newT [] 20).a ((newT [] 20).set name id).cells = HT ((newT [] 20).set name id) := by
    show [((newT [] 20).set name id).cells, _] = _
    unfold HT
    rw [m1]
    rfl
  rw [e1] at s1
  simp [strB_size, n1, n2, HT_new]
  refine xcall_self (by simp) s1 ?_
  generalize (newT [] 20).set name id = T1 at *
  simp
  refine xloop_ok (D := TK) (fun d => ⟨[(1, .v (.string (strB name))), (2, .v (.int .i64 id)), (7, .box 1 0), (46, .sl 3 (enc tdC l) none .no), (47, .v (.int .i64 (l.length : Int))), (48, .v (.int .i64 (d.j : Int)))], [], HT d.T, []⟩) (TK.Ok l.length name id) (fun d => l.length - d.j) ⟨T1, 0⟩ ⟨Nat.zero_le _, a1, m1, o1, g1⟩ ?_ ?_
  · have h1 := T1.lt 2
    simp [Leq, HT, leqH_take, h1]
    done
  · rintro ⟨T, j⟩ ⟨hj, ha, hm, ho, hg⟩
    dsimp only at hj ha hm ho hg
    by_cases hlt : j < l.length
    · have hw : IntKind.i64.wrap ((j : Int) + 1) = (j : Int) + 1 := wrap64 (by omega) (by omega)
      have hat : TbAt 0 (HT T ++ [tdC l[j]]) 1 T := (HT_at ha).app _ (by simp [tdC])
      have hst : ∀ (T' : Tb), T'.most = 20 → (HT T ++ [tdC l[j]]).set T.a T'.cells = HT T' ++ [tdC l[j]] := fun T' hm' => by
        rw [ha]
        show [T'.cells, _, _] = _
        unfold HT
        rw [hm', hm]
        rfl
      have next : ∀ {T' : Tb}, T'.a = 0 → T'.most = 20 → TbOk T' → T'.get name = some id → TK.Ok l.length name id ⟨T', j + 1⟩ := fun h1 h2 h3 h4 => ⟨by show j + 1 ≤ l.length; omega, h1, h2, h3, h4⟩
      simp [hlt, tdC, HT]
      by_cases hsk : l[j].name = name
      · simp [strB_toList, hsk, hw]
        refine ⟨⟨T, j + 1⟩, next ha hm ho hg, by show l.length - (j + 1) < l.length - j; omega, ?_⟩
        have h1 := T.lt 2
        simp [Leq, HT, leqH_take, h1]
      · by_cases hlong : 300 < (l[j].name.length : Int)
        · simp [strB_toList, strB_size, hsk, hlong, hw]
          refine ⟨⟨T, j + 1⟩, next ha hm ho hg, by show l.length - (j + 1) < l.length - j; omega, ?_⟩
          have h1 := T.lt 2
          simp [Leq, HT, leqH_take, h1]
        · have tail : ∀ (T' : Tb), T'.a = 0 → T'.most = 20 → TbOk T' → T'.get name = some id → TbAt 0 (HT T' ++ [tdC l[j]]) 1 T' ∧ ¬ 20 < (T'.e.length : Int) := fun T' h1 h2 h3 h4 => ⟨(HT_at h1).app _ (by simp [tdC]), by have := h3.len; omega⟩
          by_cases hop : l[j].op < 3
          · have hs := tset_c hat ho l[j].name (by omega) l[j].id
            have a' : (T.set l[j].name l[j].id).a = 0 := (Tb.set_a _ _ _).trans ha
            have m' : (T.set l[j].name l[j].id).most = 20 := (Tb.set_most _ _ _).trans hm
            have o' := ho.set l[j].name l[j].id
            have g' : (T.set l[j].name l[j].id).get name = some id := by
              rw [Tb.get_set ho]
              split
              · exact hg
              · rw [if_neg (fun e => hsk e.symm)]; exact hg
            rw [hst _ m'] at hs
            generalize T.set l[j].name l[j].id = T' at *
            obtain ⟨at', n20⟩ := tail T' a' m' o' g'
            have hs2 := tlen_c at'
            simp only [HT, tdC, List.cons_append, List.nil_append] at hs hs2
            simp [strB_toList, strB_size, hsk, hlong, hop]
            refine xcall_self (by simp) hs ?_
            simp
            refine xcall_self (by simp) hs2 ?_
            simp [n20, hw]
            refine ⟨⟨T', j + 1⟩, next a' m' o' g', by show l.length - (j + 1) < l.length - j; omega, ?_⟩
            have h1 := T'.lt 2
            simp [Leq, HT, leqH_take, h1]
            done
          · have hs := tdel_c hat l[j].name
            have o' := ho.del l[j].name
            have a' : (T.del l[j].name).a = 0 := ha
            have m' : (T.del l[j].name).most = 20 := hm
            have g' : (T.del l[j].name).get name = some id := by
              rw [Tb.get_del ho, if_neg (fun e => hsk e.symm)]; exact hg
            rw [hst _ m'] at hs
            generalize T.del l[j].name = T' at *
            obtain ⟨at', n20⟩ := tail T' a' m' o' g'
            have hs2 := tlen_c at'
            simp only [HT, tdC, List.cons_append, List.nil_append] at hs hs2
            simp [strB_toList, strB_size, hsk, hlong, hop]
            refine xcall_self (by simp) hs ?_
            simp
            refine xcall_self (by simp) hs2 ?_
            simp [n20, hw]
            refine ⟨⟨T', j + 1⟩, next a' m' o' g', by show l.length - (j + 1) < l.length - j; omega, ?_⟩
            have h1 := T'.lt 2
            simp [Leq, HT, leqH_take, h1]
            done
    · have : j = l.length := by omega
      subst this
      have hs := tget_c (HT_at ha) name
      rw [show T.old name = id by unfold Tb.old; rw [hg]; rfl, hg] at hs
      simp
      refine xcall_self (by simp) hs ?_
      simp
      refine xcall_self (by simp) (tawake_c _) ?_
      simp
      done
theorem tkeeps_l (l : List Td) (name : List UInt8) (id : Int) (hl : l.length ≤ maxLen ∧ ∀ x ∈ l, OkTd x) : Contract Try.prog 4 [.sl 3 (enc tdC l) none .no, .v (.string (strB name)), .v (.int .i64 id)] [] (.v (.bool true)) [] [] := tkeeps_c l name id
end Go.Proofs.Ytphgbfemigcalaa.Ax
