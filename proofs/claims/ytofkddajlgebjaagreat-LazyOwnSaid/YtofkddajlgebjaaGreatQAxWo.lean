/- The contracts of what package wire writes, over values without memory. -/
import Derived.Test.YtofkddajlgebjaaGreatQAxXr
import Derived.Test.YtofkddajlgebjaaGreatQAxSc
import Derived.Test.YtofkddajlgebjaaGreatQCodeW
import Derived.Test.YtofkddajlgebjaaGreatQHelA
/- The types of package api as Lean structures, and how they are laid out. No program is named here. Written by gen/ax_types.py. -/
namespace Go.Proofs.YtofkddajlgebjaaGreat.Ax
open Go.RowKit Go By
set_option linter.unusedSimpArgs false
set_option linter.unusedVariables false

abbrev Cl := Bool × List UInt8
def cellC (c : Cl) : List AV := [.v (.bool c.1), .sl 1 (bytesE c.2) none .no]
@[simp] theorem cellC_len (x : Cl) : (cellC x).length = 2 := of_eq_true (eq_self _)
@[simp] theorem cellC_unown (x : Cl) : (cellC x).map AV.unown = cellC x := of_eq_true (eq_self _)
@[simp] theorem cellC_take (x : Cl) : List.take 2 (cellC x) = cellC x := of_eq_true (eq_self _)
@[simp] theorem cellC_0 (x : Cl) : (cellC x)[0]? = some (.v (.bool x.1)) := of_eq_true (eq_self _)
@[simp] theorem cellC_g0 (x : Cl) (h : 0 < (cellC x).length) : (cellC x)[0] = .v (.bool x.1) := of_eq_true (eq_self _)
@[simp] theorem cellC_1 (x : Cl) : (cellC x)[1]? = some (.sl 1 (bytesE x.2) none .no) := of_eq_true (eq_self _)
@[simp] theorem cellC_g1 (x : Cl) (h : 1 < (cellC x).length) : (cellC x)[1] = .sl 1 (bytesE x.2) none .no := of_eq_true (eq_self _)
theorem cellC_mk (x : Cl) : cellC x = [.v (.bool x.1), .sl 1 (bytesE x.2) none .no] := rfl
@[simp] theorem cellC_lt (n : Nat) (x : Cl) : ltL n (cellC x) := by simp [cellC_mk]
@[simp] theorem ltLL_cellC (n : Nat) (l : List Cl) : ltLL n (enc cellC l) := ltLL_enc _ n (cellC_lt n) l
/-- api.Msg -/
structure Ms where
  type : Int
  body : List UInt8
  deriving DecidableEq
def msC (x : Ms) : List AV := [.v (.int .u8 x.type), .sl 1 (bytesE x.body) none .no]
@[simp] theorem msC_len (x : Ms) : (msC x).length = 2 := of_eq_true (eq_self _)
@[simp] theorem msC_unown (x : Ms) : (msC x).map AV.unown = msC x := of_eq_true (eq_self _)
@[simp] theorem msC_take (x : Ms) : List.take 2 (msC x) = msC x := of_eq_true (eq_self _)
@[simp] theorem msC_0 (x : Ms) : (msC x)[0]? = some (.v (.int .u8 x.type)) := of_eq_true (eq_self _)
@[simp] theorem msC_g0 (x : Ms) (h : 0 < (msC x).length) : (msC x)[0] = .v (.int .u8 x.type) := of_eq_true (eq_self _)
@[simp] theorem msC_1 (x : Ms) : (msC x)[1]? = some (.sl 1 (bytesE x.body) none .no) := of_eq_true (eq_self _)
@[simp] theorem msC_g1 (x : Ms) (h : 1 < (msC x).length) : (msC x)[1] = .sl 1 (bytesE x.body) none .no := of_eq_true (eq_self _)
theorem msC_mk (x : Ms) : msC x = [.v (.int .u8 x.type), .sl 1 (bytesE x.body) none .no] := rfl
/-- api.Pair -/
structure Pa where
  name : List UInt8
  value : List UInt8
  deriving DecidableEq
def paC (x : Pa) : List AV := [.v (.string (strB x.name)), .v (.string (strB x.value))]
@[simp] theorem paC_len (x : Pa) : (paC x).length = 2 := of_eq_true (eq_self _)
@[simp] theorem paC_unown (x : Pa) : (paC x).map AV.unown = paC x := of_eq_true (eq_self _)
@[simp] theorem paC_take (x : Pa) : List.take 2 (paC x) = paC x := of_eq_true (eq_self _)
@[simp] theorem paC_0 (x : Pa) : (paC x)[0]? = some (.v (.string (strB x.name))) := of_eq_true (eq_self _)
@[simp] theorem paC_g0 (x : Pa) (h : 0 < (paC x).length) : (paC x)[0] = .v (.string (strB x.name)) := of_eq_true (eq_self _)
@[simp] theorem paC_1 (x : Pa) : (paC x)[1]? = some (.v (.string (strB x.value))) := of_eq_true (eq_self _)
@[simp] theorem paC_g1 (x : Pa) (h : 1 < (paC x).length) : (paC x)[1] = .v (.string (strB x.value)) := of_eq_true (eq_self _)
theorem paC_mk (x : Pa) : paC x = [.v (.string (strB x.name)), .v (.string (strB x.value))] := rfl
@[simp] theorem paC_lt (n : Nat) (x : Pa) : ltL n (paC x) := by simp [paC_mk]
@[simp] theorem ltLL_paC (n : Nat) (l : List Pa) : ltLL n (enc paC l) := ltLL_enc _ n (paC_lt n) l
/-- api.Col -/
structure Co where
  name : List UInt8
  table : Int
  attr : Int
  oid : Int
  size : Int
  mod : Int
  format : Int
  deriving DecidableEq
def coC (x : Co) : List AV := [.v (.string (strB x.name)), .v (.int .i64 x.table), .v (.int .i64 x.attr), .v (.int .i64 x.oid), .v (.int .i64 x.size), .v (.int .i64 x.mod), .v (.int .i64 x.format)]
@[simp] theorem coC_len (x : Co) : (coC x).length = 7 := of_eq_true (eq_self _)
@[simp] theorem coC_unown (x : Co) : (coC x).map AV.unown = coC x := of_eq_true (eq_self _)
@[simp] theorem coC_take (x : Co) : List.take 7 (coC x) = coC x := of_eq_true (eq_self _)
@[simp] theorem coC_0 (x : Co) : (coC x)[0]? = some (.v (.string (strB x.name))) := of_eq_true (eq_self _)
@[simp] theorem coC_g0 (x : Co) (h : 0 < (coC x).length) : (coC x)[0] = .v (.string (strB x.name)) := of_eq_true (eq_self _)
@[simp] theorem coC_1 (x : Co) : (coC x)[1]? = some (.v (.int .i64 x.table)) := of_eq_true (eq_self _)
@[simp] theorem coC_g1 (x : Co) (h : 1 < (coC x).length) : (coC x)[1] = .v (.int .i64 x.table) := of_eq_true (eq_self _)
@[simp] theorem coC_2 (x : Co) : (coC x)[2]? = some (.v (.int .i64 x.attr)) := of_eq_true (eq_self _)
@[simp] theorem coC_g2 (x : Co) (h : 2 < (coC x).length) : (coC x)[2] = .v (.int .i64 x.attr) := of_eq_true (eq_self _)
@[simp] theorem coC_3 (x : Co) : (coC x)[3]? = some (.v (.int .i64 x.oid)) := of_eq_true (eq_self _)
@[simp] theorem coC_g3 (x : Co) (h : 3 < (coC x).length) : (coC x)[3] = .v (.int .i64 x.oid) := of_eq_true (eq_self _)
@[simp] theorem coC_4 (x : Co) : (coC x)[4]? = some (.v (.int .i64 x.size)) := of_eq_true (eq_self _)
@[simp] theorem coC_g4 (x : Co) (h : 4 < (coC x).length) : (coC x)[4] = .v (.int .i64 x.size) := of_eq_true (eq_self _)
@[simp] theorem coC_5 (x : Co) : (coC x)[5]? = some (.v (.int .i64 x.mod)) := of_eq_true (eq_self _)
@[simp] theorem coC_g5 (x : Co) (h : 5 < (coC x).length) : (coC x)[5] = .v (.int .i64 x.mod) := of_eq_true (eq_self _)
@[simp] theorem coC_6 (x : Co) : (coC x)[6]? = some (.v (.int .i64 x.format)) := of_eq_true (eq_self _)
@[simp] theorem coC_g6 (x : Co) (h : 6 < (coC x).length) : (coC x)[6] = .v (.int .i64 x.format) := of_eq_true (eq_self _)
theorem coC_mk (x : Co) : coC x = [.v (.string (strB x.name)), .v (.int .i64 x.table), .v (.int .i64 x.attr), .v (.int .i64 x.oid), .v (.int .i64 x.size), .v (.int .i64 x.mod), .v (.int .i64 x.format)] := rfl
@[simp] theorem coC_lt (n : Nat) (x : Co) : ltL n (coC x) := by simp [coC_mk]
@[simp] theorem ltLL_coC (n : Nat) (l : List Co) : ltLL n (enc coC l) := ltLL_enc _ n (coC_lt n) l
/-- api.Field -/
structure Fi where
  code : Int
  text : List UInt8
  deriving DecidableEq
def fiC (x : Fi) : List AV := [.v (.int .u8 x.code), .v (.string (strB x.text))]
@[simp] theorem fiC_len (x : Fi) : (fiC x).length = 2 := of_eq_true (eq_self _)
@[simp] theorem fiC_unown (x : Fi) : (fiC x).map AV.unown = fiC x := of_eq_true (eq_self _)
@[simp] theorem fiC_take (x : Fi) : List.take 2 (fiC x) = fiC x := of_eq_true (eq_self _)
@[simp] theorem fiC_0 (x : Fi) : (fiC x)[0]? = some (.v (.int .u8 x.code)) := of_eq_true (eq_self _)
@[simp] theorem fiC_g0 (x : Fi) (h : 0 < (fiC x).length) : (fiC x)[0] = .v (.int .u8 x.code) := of_eq_true (eq_self _)
@[simp] theorem fiC_1 (x : Fi) : (fiC x)[1]? = some (.v (.string (strB x.text))) := of_eq_true (eq_self _)
@[simp] theorem fiC_g1 (x : Fi) (h : 1 < (fiC x).length) : (fiC x)[1] = .v (.string (strB x.text)) := of_eq_true (eq_self _)
theorem fiC_mk (x : Fi) : fiC x = [.v (.int .u8 x.code), .v (.string (strB x.text))] := rfl
@[simp] theorem fiC_lt (n : Nat) (x : Fi) : ltL n (fiC x) := by simp [fiC_mk]
@[simp] theorem ltLL_fiC (n : Nat) (l : List Fi) : ltLL n (enc fiC l) := ltLL_enc _ n (fiC_lt n) l
/-- api.Stmt -/
structure Sm where
  text : List UInt8
  oids : List Int
  deriving DecidableEq
def smC (x : Sm) : List AV := [.v (.string (strB x.text)), .sl 1 (enc intC x.oids) none .no]
@[simp] theorem smC_len (x : Sm) : (smC x).length = 2 := of_eq_true (eq_self _)
@[simp] theorem smC_unown (x : Sm) : (smC x).map AV.unown = smC x := of_eq_true (eq_self _)
@[simp] theorem smC_take (x : Sm) : List.take 2 (smC x) = smC x := of_eq_true (eq_self _)
@[simp] theorem smC_0 (x : Sm) : (smC x)[0]? = some (.v (.string (strB x.text))) := of_eq_true (eq_self _)
@[simp] theorem smC_g0 (x : Sm) (h : 0 < (smC x).length) : (smC x)[0] = .v (.string (strB x.text)) := of_eq_true (eq_self _)
@[simp] theorem smC_1 (x : Sm) : (smC x)[1]? = some (.sl 1 (enc intC x.oids) none .no) := of_eq_true (eq_self _)
@[simp] theorem smC_g1 (x : Sm) (h : 1 < (smC x).length) : (smC x)[1] = .sl 1 (enc intC x.oids) none .no := of_eq_true (eq_self _)
/-- api.Hello -/
structure Hm where
  code : Int
  process : Int
  secret : Int
  params : List Pa
  deriving DecidableEq
def hmC (x : Hm) : List AV := [.v (.int .i64 x.code), .v (.int .i64 x.process), .v (.int .i64 x.secret), .sl 2 (enc paC x.params) none .no]
@[simp] theorem hmC_len (x : Hm) : (hmC x).length = 4 := of_eq_true (eq_self _)
@[simp] theorem hmC_unown (x : Hm) : (hmC x).map AV.unown = hmC x := of_eq_true (eq_self _)
@[simp] theorem hmC_take (x : Hm) : List.take 4 (hmC x) = hmC x := of_eq_true (eq_self _)
@[simp] theorem hmC_0 (x : Hm) : (hmC x)[0]? = some (.v (.int .i64 x.code)) := of_eq_true (eq_self _)
@[simp] theorem hmC_g0 (x : Hm) (h : 0 < (hmC x).length) : (hmC x)[0] = .v (.int .i64 x.code) := of_eq_true (eq_self _)
@[simp] theorem hmC_1 (x : Hm) : (hmC x)[1]? = some (.v (.int .i64 x.process)) := of_eq_true (eq_self _)
@[simp] theorem hmC_g1 (x : Hm) (h : 1 < (hmC x).length) : (hmC x)[1] = .v (.int .i64 x.process) := of_eq_true (eq_self _)
@[simp] theorem hmC_2 (x : Hm) : (hmC x)[2]? = some (.v (.int .i64 x.secret)) := of_eq_true (eq_self _)
@[simp] theorem hmC_g2 (x : Hm) (h : 2 < (hmC x).length) : (hmC x)[2] = .v (.int .i64 x.secret) := of_eq_true (eq_self _)
@[simp] theorem hmC_3 (x : Hm) : (hmC x)[3]? = some (.sl 2 (enc paC x.params) none .no) := of_eq_true (eq_self _)
@[simp] theorem hmC_g3 (x : Hm) (h : 3 < (hmC x).length) : (hmC x)[3] = .sl 2 (enc paC x.params) none .no := of_eq_true (eq_self _)
/-- api.Front -/
structure Fm where
  kind : Int
  what : Int
  name : List UInt8
  portal : List UInt8
  text : List UInt8
  oids : List Int
  formats : List Int
  results : List Int
  params : List Cl
  max : Int
  deriving DecidableEq
def fmC (x : Fm) : List AV := [.v (.int .u8 x.kind), .v (.int .u8 x.what), .v (.string (strB x.name)), .v (.string (strB x.portal)), .v (.string (strB x.text)), .sl 1 (enc intC x.oids) none .no, .sl 1 (enc intC x.formats) none .no, .sl 1 (enc intC x.results) none .no, .sl 2 (enc cellC x.params) none .no, .v (.int .i64 x.max)]
@[simp] theorem fmC_len (x : Fm) : (fmC x).length = 10 := of_eq_true (eq_self _)
@[simp] theorem fmC_unown (x : Fm) : (fmC x).map AV.unown = fmC x := of_eq_true (eq_self _)
@[simp] theorem fmC_take (x : Fm) : List.take 10 (fmC x) = fmC x := of_eq_true (eq_self _)
@[simp] theorem fmC_0 (x : Fm) : (fmC x)[0]? = some (.v (.int .u8 x.kind)) := of_eq_true (eq_self _)
@[simp] theorem fmC_g0 (x : Fm) (h : 0 < (fmC x).length) : (fmC x)[0] = .v (.int .u8 x.kind) := of_eq_true (eq_self _)
@[simp] theorem fmC_1 (x : Fm) : (fmC x)[1]? = some (.v (.int .u8 x.what)) := of_eq_true (eq_self _)
@[simp] theorem fmC_g1 (x : Fm) (h : 1 < (fmC x).length) : (fmC x)[1] = .v (.int .u8 x.what) := of_eq_true (eq_self _)
@[simp] theorem fmC_2 (x : Fm) : (fmC x)[2]? = some (.v (.string (strB x.name))) := of_eq_true (eq_self _)
@[simp] theorem fmC_g2 (x : Fm) (h : 2 < (fmC x).length) : (fmC x)[2] = .v (.string (strB x.name)) := of_eq_true (eq_self _)
@[simp] theorem fmC_3 (x : Fm) : (fmC x)[3]? = some (.v (.string (strB x.portal))) := of_eq_true (eq_self _)
@[simp] theorem fmC_g3 (x : Fm) (h : 3 < (fmC x).length) : (fmC x)[3] = .v (.string (strB x.portal)) := of_eq_true (eq_self _)
@[simp] theorem fmC_4 (x : Fm) : (fmC x)[4]? = some (.v (.string (strB x.text))) := of_eq_true (eq_self _)
@[simp] theorem fmC_g4 (x : Fm) (h : 4 < (fmC x).length) : (fmC x)[4] = .v (.string (strB x.text)) := of_eq_true (eq_self _)
@[simp] theorem fmC_5 (x : Fm) : (fmC x)[5]? = some (.sl 1 (enc intC x.oids) none .no) := of_eq_true (eq_self _)
@[simp] theorem fmC_g5 (x : Fm) (h : 5 < (fmC x).length) : (fmC x)[5] = .sl 1 (enc intC x.oids) none .no := of_eq_true (eq_self _)
@[simp] theorem fmC_6 (x : Fm) : (fmC x)[6]? = some (.sl 1 (enc intC x.formats) none .no) := of_eq_true (eq_self _)
@[simp] theorem fmC_g6 (x : Fm) (h : 6 < (fmC x).length) : (fmC x)[6] = .sl 1 (enc intC x.formats) none .no := of_eq_true (eq_self _)
@[simp] theorem fmC_7 (x : Fm) : (fmC x)[7]? = some (.sl 1 (enc intC x.results) none .no) := of_eq_true (eq_self _)
@[simp] theorem fmC_g7 (x : Fm) (h : 7 < (fmC x).length) : (fmC x)[7] = .sl 1 (enc intC x.results) none .no := of_eq_true (eq_self _)
@[simp] theorem fmC_8 (x : Fm) : (fmC x)[8]? = some (.sl 2 (enc cellC x.params) none .no) := of_eq_true (eq_self _)
@[simp] theorem fmC_g8 (x : Fm) (h : 8 < (fmC x).length) : (fmC x)[8] = .sl 2 (enc cellC x.params) none .no := of_eq_true (eq_self _)
@[simp] theorem fmC_9 (x : Fm) : (fmC x)[9]? = some (.v (.int .i64 x.max)) := of_eq_true (eq_self _)
@[simp] theorem fmC_g9 (x : Fm) (h : 9 < (fmC x).length) : (fmC x)[9] = .v (.int .i64 x.max) := of_eq_true (eq_self _)
/-- api.Back -/
structure Bk where
  kind : Int
  status : Int
  tag : List UInt8
  name : List UInt8
  value : List UInt8
  n : Int
  m : Int
  oids : List Int
  cols : List Co
  row : List Cl
  fields : List Fi
  deriving DecidableEq
def bkC (x : Bk) : List AV := [.v (.int .u8 x.kind), .v (.int .u8 x.status), .v (.string (strB x.tag)), .v (.string (strB x.name)), .v (.string (strB x.value)), .v (.int .i64 x.n), .v (.int .i64 x.m), .sl 1 (enc intC x.oids) none .no, .sl 7 (enc coC x.cols) none .no, .sl 2 (enc cellC x.row) none .no, .sl 2 (enc fiC x.fields) none .no]
@[simp] theorem bkC_len (x : Bk) : (bkC x).length = 11 := of_eq_true (eq_self _)
@[simp] theorem bkC_unown (x : Bk) : (bkC x).map AV.unown = bkC x := of_eq_true (eq_self _)
@[simp] theorem bkC_take (x : Bk) : List.take 11 (bkC x) = bkC x := of_eq_true (eq_self _)
@[simp] theorem bkC_0 (x : Bk) : (bkC x)[0]? = some (.v (.int .u8 x.kind)) := of_eq_true (eq_self _)
@[simp] theorem bkC_g0 (x : Bk) (h : 0 < (bkC x).length) : (bkC x)[0] = .v (.int .u8 x.kind) := of_eq_true (eq_self _)
@[simp] theorem bkC_1 (x : Bk) : (bkC x)[1]? = some (.v (.int .u8 x.status)) := of_eq_true (eq_self _)
@[simp] theorem bkC_g1 (x : Bk) (h : 1 < (bkC x).length) : (bkC x)[1] = .v (.int .u8 x.status) := of_eq_true (eq_self _)
@[simp] theorem bkC_2 (x : Bk) : (bkC x)[2]? = some (.v (.string (strB x.tag))) := of_eq_true (eq_self _)
@[simp] theorem bkC_g2 (x : Bk) (h : 2 < (bkC x).length) : (bkC x)[2] = .v (.string (strB x.tag)) := of_eq_true (eq_self _)
@[simp] theorem bkC_3 (x : Bk) : (bkC x)[3]? = some (.v (.string (strB x.name))) := of_eq_true (eq_self _)
@[simp] theorem bkC_g3 (x : Bk) (h : 3 < (bkC x).length) : (bkC x)[3] = .v (.string (strB x.name)) := of_eq_true (eq_self _)
@[simp] theorem bkC_4 (x : Bk) : (bkC x)[4]? = some (.v (.string (strB x.value))) := of_eq_true (eq_self _)
@[simp] theorem bkC_g4 (x : Bk) (h : 4 < (bkC x).length) : (bkC x)[4] = .v (.string (strB x.value)) := of_eq_true (eq_self _)
@[simp] theorem bkC_5 (x : Bk) : (bkC x)[5]? = some (.v (.int .i64 x.n)) := of_eq_true (eq_self _)
@[simp] theorem bkC_g5 (x : Bk) (h : 5 < (bkC x).length) : (bkC x)[5] = .v (.int .i64 x.n) := of_eq_true (eq_self _)
@[simp] theorem bkC_6 (x : Bk) : (bkC x)[6]? = some (.v (.int .i64 x.m)) := of_eq_true (eq_self _)
@[simp] theorem bkC_g6 (x : Bk) (h : 6 < (bkC x).length) : (bkC x)[6] = .v (.int .i64 x.m) := of_eq_true (eq_self _)
@[simp] theorem bkC_7 (x : Bk) : (bkC x)[7]? = some (.sl 1 (enc intC x.oids) none .no) := of_eq_true (eq_self _)
@[simp] theorem bkC_g7 (x : Bk) (h : 7 < (bkC x).length) : (bkC x)[7] = .sl 1 (enc intC x.oids) none .no := of_eq_true (eq_self _)
@[simp] theorem bkC_8 (x : Bk) : (bkC x)[8]? = some (.sl 7 (enc coC x.cols) none .no) := of_eq_true (eq_self _)
@[simp] theorem bkC_g8 (x : Bk) (h : 8 < (bkC x).length) : (bkC x)[8] = .sl 7 (enc coC x.cols) none .no := of_eq_true (eq_self _)
@[simp] theorem bkC_9 (x : Bk) : (bkC x)[9]? = some (.sl 2 (enc cellC x.row) none .no) := of_eq_true (eq_self _)
@[simp] theorem bkC_g9 (x : Bk) (h : 9 < (bkC x).length) : (bkC x)[9] = .sl 2 (enc cellC x.row) none .no := of_eq_true (eq_self _)
@[simp] theorem bkC_10 (x : Bk) : (bkC x)[10]? = some (.sl 2 (enc fiC x.fields) none .no) := of_eq_true (eq_self _)
@[simp] theorem bkC_g10 (x : Bk) (h : 10 < (bkC x).length) : (bkC x)[10] = .sl 2 (enc fiC x.fields) none .no := of_eq_true (eq_self _)
theorem bkC_mk (x : Bk) : bkC x = [.v (.int .u8 x.kind), .v (.int .u8 x.status), .v (.string (strB x.tag)), .v (.string (strB x.name)), .v (.string (strB x.value)), .v (.int .i64 x.n), .v (.int .i64 x.m), .sl 1 (enc intC x.oids) none .no, .sl 7 (enc coC x.cols) none .no, .sl 2 (enc cellC x.row) none .no, .sl 2 (enc fiC x.fields) none .no] := rfl
@[simp] theorem bkC_lt (n : Nat) (x : Bk) : ltL n (bkC x) := by simp [bkC_mk]
@[simp] theorem ltLL_bkC (n : Nat) (l : List Bk) : ltLL n (enc bkC l) := ltLL_enc _ n (bkC_lt n) l
/-- api.TableOp -/
structure To where
  set : Bool
  name : List UInt8
  id : Int
  deriving DecidableEq
def toC (x : To) : List AV := [.v (.bool x.set), .v (.string (strB x.name)), .v (.int .i64 x.id)]
@[simp] theorem toC_len (x : To) : (toC x).length = 3 := of_eq_true (eq_self _)
@[simp] theorem toC_unown (x : To) : (toC x).map AV.unown = toC x := of_eq_true (eq_self _)
@[simp] theorem toC_take (x : To) : List.take 3 (toC x) = toC x := of_eq_true (eq_self _)
@[simp] theorem toC_0 (x : To) : (toC x)[0]? = some (.v (.bool x.set)) := of_eq_true (eq_self _)
@[simp] theorem toC_g0 (x : To) (h : 0 < (toC x).length) : (toC x)[0] = .v (.bool x.set) := of_eq_true (eq_self _)
@[simp] theorem toC_1 (x : To) : (toC x)[1]? = some (.v (.string (strB x.name))) := of_eq_true (eq_self _)
@[simp] theorem toC_g1 (x : To) (h : 1 < (toC x).length) : (toC x)[1] = .v (.string (strB x.name)) := of_eq_true (eq_self _)
@[simp] theorem toC_2 (x : To) : (toC x)[2]? = some (.v (.int .i64 x.id)) := of_eq_true (eq_self _)
@[simp] theorem toC_g2 (x : To) (h : 2 < (toC x).length) : (toC x)[2] = .v (.int .i64 x.id) := of_eq_true (eq_self _)
/-- api.CacheOp -/
structure Oc where
  kind : Int
  id : Int
  deriving DecidableEq
def ocC (x : Oc) : List AV := [.v (.int .i64 x.kind), .v (.int .i64 x.id)]
@[simp] theorem ocC_len (x : Oc) : (ocC x).length = 2 := of_eq_true (eq_self _)
@[simp] theorem ocC_unown (x : Oc) : (ocC x).map AV.unown = ocC x := of_eq_true (eq_self _)
@[simp] theorem ocC_take (x : Oc) : List.take 2 (ocC x) = ocC x := of_eq_true (eq_self _)
@[simp] theorem ocC_0 (x : Oc) : (ocC x)[0]? = some (.v (.int .i64 x.kind)) := of_eq_true (eq_self _)
@[simp] theorem ocC_g0 (x : Oc) (h : 0 < (ocC x).length) : (ocC x)[0] = .v (.int .i64 x.kind) := of_eq_true (eq_self _)
@[simp] theorem ocC_1 (x : Oc) : (ocC x)[1]? = some (.v (.int .i64 x.id)) := of_eq_true (eq_self _)
@[simp] theorem ocC_g1 (x : Oc) (h : 1 < (ocC x).length) : (ocC x)[1] = .v (.int .i64 x.id) := of_eq_true (eq_self _)
/-- api.Entry -/
structure En where
  kind : Int
  hide : Bool
  from_ : List UInt8
  to : List UInt8
  good : List To
  bad : List To
  cache : List Oc
  reply : List UInt8
  deriving DecidableEq
def enC (x : En) : List AV := [.v (.int .i64 x.kind), .v (.bool x.hide), .v (.string (strB x.from_)), .v (.string (strB x.to)), .sl 3 (enc toC x.good) none .no, .sl 3 (enc toC x.bad) none .no, .sl 2 (enc ocC x.cache) none .no, .sl 1 (bytesE x.reply) none .no]
@[simp] theorem enC_len (x : En) : (enC x).length = 8 := of_eq_true (eq_self _)
@[simp] theorem enC_unown (x : En) : (enC x).map AV.unown = enC x := of_eq_true (eq_self _)
@[simp] theorem enC_take (x : En) : List.take 8 (enC x) = enC x := of_eq_true (eq_self _)
@[simp] theorem enC_0 (x : En) : (enC x)[0]? = some (.v (.int .i64 x.kind)) := of_eq_true (eq_self _)
@[simp] theorem enC_g0 (x : En) (h : 0 < (enC x).length) : (enC x)[0] = .v (.int .i64 x.kind) := of_eq_true (eq_self _)
@[simp] theorem enC_1 (x : En) : (enC x)[1]? = some (.v (.bool x.hide)) := of_eq_true (eq_self _)
@[simp] theorem enC_g1 (x : En) (h : 1 < (enC x).length) : (enC x)[1] = .v (.bool x.hide) := of_eq_true (eq_self _)
@[simp] theorem enC_2 (x : En) : (enC x)[2]? = some (.v (.string (strB x.from_))) := of_eq_true (eq_self _)
@[simp] theorem enC_g2 (x : En) (h : 2 < (enC x).length) : (enC x)[2] = .v (.string (strB x.from_)) := of_eq_true (eq_self _)
@[simp] theorem enC_3 (x : En) : (enC x)[3]? = some (.v (.string (strB x.to))) := of_eq_true (eq_self _)
@[simp] theorem enC_g3 (x : En) (h : 3 < (enC x).length) : (enC x)[3] = .v (.string (strB x.to)) := of_eq_true (eq_self _)
@[simp] theorem enC_4 (x : En) : (enC x)[4]? = some (.sl 3 (enc toC x.good) none .no) := of_eq_true (eq_self _)
@[simp] theorem enC_g4 (x : En) (h : 4 < (enC x).length) : (enC x)[4] = .sl 3 (enc toC x.good) none .no := of_eq_true (eq_self _)
@[simp] theorem enC_5 (x : En) : (enC x)[5]? = some (.sl 3 (enc toC x.bad) none .no) := of_eq_true (eq_self _)
@[simp] theorem enC_g5 (x : En) (h : 5 < (enC x).length) : (enC x)[5] = .sl 3 (enc toC x.bad) none .no := of_eq_true (eq_self _)
@[simp] theorem enC_6 (x : En) : (enC x)[6]? = some (.sl 2 (enc ocC x.cache) none .no) := of_eq_true (eq_self _)
@[simp] theorem enC_g6 (x : En) (h : 6 < (enC x).length) : (enC x)[6] = .sl 2 (enc ocC x.cache) none .no := of_eq_true (eq_self _)
@[simp] theorem enC_7 (x : En) : (enC x)[7]? = some (.sl 1 (bytesE x.reply) none .no) := of_eq_true (eq_self _)
@[simp] theorem enC_g7 (x : En) (h : 7 < (enC x).length) : (enC x)[7] = .sl 1 (bytesE x.reply) none .no := of_eq_true (eq_self _)
/-- api.Verb -/
structure Vb where
  kind : Int
  n : Int
  code : List UInt8
  deriving DecidableEq
def vbC (x : Vb) : List AV := [.v (.int .i64 x.kind), .v (.int .i64 x.n), .v (.string (strB x.code))]
@[simp] theorem vbC_len (x : Vb) : (vbC x).length = 3 := of_eq_true (eq_self _)
@[simp] theorem vbC_unown (x : Vb) : (vbC x).map AV.unown = vbC x := of_eq_true (eq_self _)
@[simp] theorem vbC_take (x : Vb) : List.take 3 (vbC x) = vbC x := of_eq_true (eq_self _)
@[simp] theorem vbC_0 (x : Vb) : (vbC x)[0]? = some (.v (.int .i64 x.kind)) := of_eq_true (eq_self _)
@[simp] theorem vbC_g0 (x : Vb) (h : 0 < (vbC x).length) : (vbC x)[0] = .v (.int .i64 x.kind) := of_eq_true (eq_self _)
@[simp] theorem vbC_1 (x : Vb) : (vbC x)[1]? = some (.v (.int .i64 x.n)) := of_eq_true (eq_self _)
@[simp] theorem vbC_g1 (x : Vb) (h : 1 < (vbC x).length) : (vbC x)[1] = .v (.int .i64 x.n) := of_eq_true (eq_self _)
@[simp] theorem vbC_2 (x : Vb) : (vbC x)[2]? = some (.v (.string (strB x.code))) := of_eq_true (eq_self _)
@[simp] theorem vbC_g2 (x : Vb) (h : 2 < (vbC x).length) : (vbC x)[2] = .v (.string (strB x.code)) := of_eq_true (eq_self _)
/-- api.Config -/
structure Cf where
  servers : Int
  cache : Int
  table : Int
  message : Int
  buffer : Int
  queue : Int
  params : List Pa
  deriving DecidableEq
def cfC (x : Cf) : List AV := [.v (.int .i64 x.servers), .v (.int .i64 x.cache), .v (.int .i64 x.table), .v (.int .i64 x.message), .v (.int .i64 x.buffer), .v (.int .i64 x.queue), .sl 2 (enc paC x.params) none .no]
@[simp] theorem cfC_len (x : Cf) : (cfC x).length = 7 := of_eq_true (eq_self _)
@[simp] theorem cfC_unown (x : Cf) : (cfC x).map AV.unown = cfC x := of_eq_true (eq_self _)
@[simp] theorem cfC_take (x : Cf) : List.take 7 (cfC x) = cfC x := of_eq_true (eq_self _)
@[simp] theorem cfC_0 (x : Cf) : (cfC x)[0]? = some (.v (.int .i64 x.servers)) := of_eq_true (eq_self _)
@[simp] theorem cfC_g0 (x : Cf) (h : 0 < (cfC x).length) : (cfC x)[0] = .v (.int .i64 x.servers) := of_eq_true (eq_self _)
@[simp] theorem cfC_1 (x : Cf) : (cfC x)[1]? = some (.v (.int .i64 x.cache)) := of_eq_true (eq_self _)
@[simp] theorem cfC_g1 (x : Cf) (h : 1 < (cfC x).length) : (cfC x)[1] = .v (.int .i64 x.cache) := of_eq_true (eq_self _)
@[simp] theorem cfC_2 (x : Cf) : (cfC x)[2]? = some (.v (.int .i64 x.table)) := of_eq_true (eq_self _)
@[simp] theorem cfC_g2 (x : Cf) (h : 2 < (cfC x).length) : (cfC x)[2] = .v (.int .i64 x.table) := of_eq_true (eq_self _)
@[simp] theorem cfC_3 (x : Cf) : (cfC x)[3]? = some (.v (.int .i64 x.message)) := of_eq_true (eq_self _)
@[simp] theorem cfC_g3 (x : Cf) (h : 3 < (cfC x).length) : (cfC x)[3] = .v (.int .i64 x.message) := of_eq_true (eq_self _)
@[simp] theorem cfC_4 (x : Cf) : (cfC x)[4]? = some (.v (.int .i64 x.buffer)) := of_eq_true (eq_self _)
@[simp] theorem cfC_g4 (x : Cf) (h : 4 < (cfC x).length) : (cfC x)[4] = .v (.int .i64 x.buffer) := of_eq_true (eq_self _)
@[simp] theorem cfC_5 (x : Cf) : (cfC x)[5]? = some (.v (.int .i64 x.queue)) := of_eq_true (eq_self _)
@[simp] theorem cfC_g5 (x : Cf) (h : 5 < (cfC x).length) : (cfC x)[5] = .v (.int .i64 x.queue) := of_eq_true (eq_self _)
@[simp] theorem cfC_6 (x : Cf) : (cfC x)[6]? = some (.sl 2 (enc paC x.params) none .no) := of_eq_true (eq_self _)
@[simp] theorem cfC_g6 (x : Cf) (h : 6 < (cfC x).length) : (cfC x)[6] = .sl 2 (enc paC x.params) none .no := of_eq_true (eq_self _)
/-- api.Event -/
structure Ev where
  kind : Int
  who : Int
  n : Int
  bytes : List UInt8
  deriving DecidableEq
def evC (x : Ev) : List AV := [.v (.int .i64 x.kind), .v (.int .i64 x.who), .v (.int .i64 x.n), .sl 1 (bytesE x.bytes) none .no]
@[simp] theorem evC_len (x : Ev) : (evC x).length = 4 := of_eq_true (eq_self _)
@[simp] theorem evC_unown (x : Ev) : (evC x).map AV.unown = evC x := of_eq_true (eq_self _)
@[simp] theorem evC_take (x : Ev) : List.take 4 (evC x) = evC x := of_eq_true (eq_self _)
@[simp] theorem evC_0 (x : Ev) : (evC x)[0]? = some (.v (.int .i64 x.kind)) := of_eq_true (eq_self _)
@[simp] theorem evC_g0 (x : Ev) (h : 0 < (evC x).length) : (evC x)[0] = .v (.int .i64 x.kind) := of_eq_true (eq_self _)
@[simp] theorem evC_1 (x : Ev) : (evC x)[1]? = some (.v (.int .i64 x.who)) := of_eq_true (eq_self _)
@[simp] theorem evC_g1 (x : Ev) (h : 1 < (evC x).length) : (evC x)[1] = .v (.int .i64 x.who) := of_eq_true (eq_self _)
@[simp] theorem evC_2 (x : Ev) : (evC x)[2]? = some (.v (.int .i64 x.n)) := of_eq_true (eq_self _)
@[simp] theorem evC_g2 (x : Ev) (h : 2 < (evC x).length) : (evC x)[2] = .v (.int .i64 x.n) := of_eq_true (eq_self _)
@[simp] theorem evC_3 (x : Ev) : (evC x)[3]? = some (.sl 1 (bytesE x.bytes) none .no) := of_eq_true (eq_self _)
@[simp] theorem evC_g3 (x : Ev) (h : 3 < (evC x).length) : (evC x)[3] = .sl 1 (bytesE x.bytes) none .no := of_eq_true (eq_self _)
/-- api.Sent -/
structure Se where
  client : Int
  index : Int
  bytes : List UInt8
  deriving DecidableEq
def seC (x : Se) : List AV := [.v (.int .i64 x.client), .v (.int .i64 x.index), .sl 1 (bytesE x.bytes) none .no]
@[simp] theorem seC_len (x : Se) : (seC x).length = 3 := of_eq_true (eq_self _)
@[simp] theorem seC_unown (x : Se) : (seC x).map AV.unown = seC x := of_eq_true (eq_self _)
@[simp] theorem seC_take (x : Se) : List.take 3 (seC x) = seC x := of_eq_true (eq_self _)
@[simp] theorem seC_0 (x : Se) : (seC x)[0]? = some (.v (.int .i64 x.client)) := of_eq_true (eq_self _)
@[simp] theorem seC_g0 (x : Se) (h : 0 < (seC x).length) : (seC x)[0] = .v (.int .i64 x.client) := of_eq_true (eq_self _)
@[simp] theorem seC_1 (x : Se) : (seC x)[1]? = some (.v (.int .i64 x.index)) := of_eq_true (eq_self _)
@[simp] theorem seC_g1 (x : Se) (h : 1 < (seC x).length) : (seC x)[1] = .v (.int .i64 x.index) := of_eq_true (eq_self _)
@[simp] theorem seC_2 (x : Se) : (seC x)[2]? = some (.sl 1 (bytesE x.bytes) none .no) := of_eq_true (eq_self _)
@[simp] theorem seC_g2 (x : Se) (h : 2 < (seC x).length) : (seC x)[2] = .sl 1 (bytesE x.bytes) none .no := of_eq_true (eq_self _)
/-- api.Call -/
structure Ca where
  client : Int
  index : Int
  deriving DecidableEq
def caC (x : Ca) : List AV := [.v (.int .i64 x.client), .v (.int .i64 x.index)]
@[simp] theorem caC_len (x : Ca) : (caC x).length = 2 := of_eq_true (eq_self _)
@[simp] theorem caC_unown (x : Ca) : (caC x).map AV.unown = caC x := of_eq_true (eq_self _)
@[simp] theorem caC_take (x : Ca) : List.take 2 (caC x) = caC x := of_eq_true (eq_self _)
@[simp] theorem caC_0 (x : Ca) : (caC x)[0]? = some (.v (.int .i64 x.client)) := of_eq_true (eq_self _)
@[simp] theorem caC_g0 (x : Ca) (h : 0 < (caC x).length) : (caC x)[0] = .v (.int .i64 x.client) := of_eq_true (eq_self _)
@[simp] theorem caC_1 (x : Ca) : (caC x)[1]? = some (.v (.int .i64 x.index)) := of_eq_true (eq_self _)
@[simp] theorem caC_g1 (x : Ca) (h : 1 < (caC x).length) : (caC x)[1] = .v (.int .i64 x.index) := of_eq_true (eq_self _)
/-- api.Named -/
structure Na where
  name : List UInt8
  id : Int
  deriving DecidableEq
def naC (x : Na) : List AV := [.v (.string (strB x.name)), .v (.int .i64 x.id)]
@[simp] theorem naC_len (x : Na) : (naC x).length = 2 := of_eq_true (eq_self _)
@[simp] theorem naC_unown (x : Na) : (naC x).map AV.unown = naC x := of_eq_true (eq_self _)
@[simp] theorem naC_take (x : Na) : List.take 2 (naC x) = naC x := of_eq_true (eq_self _)
@[simp] theorem naC_0 (x : Na) : (naC x)[0]? = some (.v (.string (strB x.name))) := of_eq_true (eq_self _)
@[simp] theorem naC_g0 (x : Na) (h : 0 < (naC x).length) : (naC x)[0] = .v (.string (strB x.name)) := of_eq_true (eq_self _)
@[simp] theorem naC_1 (x : Na) : (naC x)[1]? = some (.v (.int .i64 x.id)) := of_eq_true (eq_self _)
@[simp] theorem naC_g1 (x : Na) (h : 1 < (naC x).length) : (naC x)[1] = .v (.int .i64 x.id) := of_eq_true (eq_self _)
/-- api.Counted -/
structure Cn where
  id : Int
  refs : Int
  deriving DecidableEq
def cnC (x : Cn) : List AV := [.v (.int .i64 x.id), .v (.int .i64 x.refs)]
@[simp] theorem cnC_len (x : Cn) : (cnC x).length = 2 := of_eq_true (eq_self _)
@[simp] theorem cnC_unown (x : Cn) : (cnC x).map AV.unown = cnC x := of_eq_true (eq_self _)
@[simp] theorem cnC_take (x : Cn) : List.take 2 (cnC x) = cnC x := of_eq_true (eq_self _)
@[simp] theorem cnC_0 (x : Cn) : (cnC x)[0]? = some (.v (.int .i64 x.id)) := of_eq_true (eq_self _)
@[simp] theorem cnC_g0 (x : Cn) (h : 0 < (cnC x).length) : (cnC x)[0] = .v (.int .i64 x.id) := of_eq_true (eq_self _)
@[simp] theorem cnC_1 (x : Cn) : (cnC x)[1]? = some (.v (.int .i64 x.refs)) := of_eq_true (eq_self _)
@[simp] theorem cnC_g1 (x : Cn) (h : 1 < (cnC x).length) : (cnC x)[1] = .v (.int .i64 x.refs) := of_eq_true (eq_self _)
/-- api.ClientView -/
structure Cv where
  phase : Int
  server : Int
  done : Int
  table : List Na
  deriving DecidableEq
def cvC (x : Cv) : List AV := [.v (.int .i64 x.phase), .v (.int .i64 x.server), .v (.int .i64 x.done), .sl 2 (enc naC x.table) none .no]
@[simp] theorem cvC_len (x : Cv) : (cvC x).length = 4 := of_eq_true (eq_self _)
@[simp] theorem cvC_unown (x : Cv) : (cvC x).map AV.unown = cvC x := of_eq_true (eq_self _)
@[simp] theorem cvC_take (x : Cv) : List.take 4 (cvC x) = cvC x := of_eq_true (eq_self _)
@[simp] theorem cvC_0 (x : Cv) : (cvC x)[0]? = some (.v (.int .i64 x.phase)) := of_eq_true (eq_self _)
@[simp] theorem cvC_g0 (x : Cv) (h : 0 < (cvC x).length) : (cvC x)[0] = .v (.int .i64 x.phase) := of_eq_true (eq_self _)
@[simp] theorem cvC_1 (x : Cv) : (cvC x)[1]? = some (.v (.int .i64 x.server)) := of_eq_true (eq_self _)
@[simp] theorem cvC_g1 (x : Cv) (h : 1 < (cvC x).length) : (cvC x)[1] = .v (.int .i64 x.server) := of_eq_true (eq_self _)
@[simp] theorem cvC_2 (x : Cv) : (cvC x)[2]? = some (.v (.int .i64 x.done)) := of_eq_true (eq_self _)
@[simp] theorem cvC_g2 (x : Cv) (h : 2 < (cvC x).length) : (cvC x)[2] = .v (.int .i64 x.done) := of_eq_true (eq_self _)
@[simp] theorem cvC_3 (x : Cv) : (cvC x)[3]? = some (.sl 2 (enc naC x.table) none .no) := of_eq_true (eq_self _)
@[simp] theorem cvC_g3 (x : Cv) (h : 3 < (cvC x).length) : (cvC x)[3] = .sl 2 (enc naC x.table) none .no := of_eq_true (eq_self _)
/-- api.ServerView -/
structure Sv where
  state : Int
  holder : Int
  queue : Int
  status : Int
  cache : List Int
  pending : List Int
  deriving DecidableEq
def svC (x : Sv) : List AV := [.v (.int .i64 x.state), .v (.int .i64 x.holder), .v (.int .i64 x.queue), .v (.int .u8 x.status), .sl 1 (enc intC x.cache) none .no, .sl 1 (enc intC x.pending) none .no]
@[simp] theorem svC_len (x : Sv) : (svC x).length = 6 := of_eq_true (eq_self _)
@[simp] theorem svC_unown (x : Sv) : (svC x).map AV.unown = svC x := of_eq_true (eq_self _)
@[simp] theorem svC_take (x : Sv) : List.take 6 (svC x) = svC x := of_eq_true (eq_self _)
@[simp] theorem svC_0 (x : Sv) : (svC x)[0]? = some (.v (.int .i64 x.state)) := of_eq_true (eq_self _)
@[simp] theorem svC_g0 (x : Sv) (h : 0 < (svC x).length) : (svC x)[0] = .v (.int .i64 x.state) := of_eq_true (eq_self _)
@[simp] theorem svC_1 (x : Sv) : (svC x)[1]? = some (.v (.int .i64 x.holder)) := of_eq_true (eq_self _)
@[simp] theorem svC_g1 (x : Sv) (h : 1 < (svC x).length) : (svC x)[1] = .v (.int .i64 x.holder) := of_eq_true (eq_self _)
@[simp] theorem svC_2 (x : Sv) : (svC x)[2]? = some (.v (.int .i64 x.queue)) := of_eq_true (eq_self _)
@[simp] theorem svC_g2 (x : Sv) (h : 2 < (svC x).length) : (svC x)[2] = .v (.int .i64 x.queue) := of_eq_true (eq_self _)
@[simp] theorem svC_3 (x : Sv) : (svC x)[3]? = some (.v (.int .u8 x.status)) := of_eq_true (eq_self _)
@[simp] theorem svC_g3 (x : Sv) (h : 3 < (svC x).length) : (svC x)[3] = .v (.int .u8 x.status) := of_eq_true (eq_self _)
@[simp] theorem svC_4 (x : Sv) : (svC x)[4]? = some (.sl 1 (enc intC x.cache) none .no) := of_eq_true (eq_self _)
@[simp] theorem svC_g4 (x : Sv) (h : 4 < (svC x).length) : (svC x)[4] = .sl 1 (enc intC x.cache) none .no := of_eq_true (eq_self _)
@[simp] theorem svC_5 (x : Sv) : (svC x)[5]? = some (.sl 1 (enc intC x.pending) none .no) := of_eq_true (eq_self _)
@[simp] theorem svC_g5 (x : Sv) (h : 5 < (svC x).length) : (svC x)[5] = .sl 1 (enc intC x.pending) none .no := of_eq_true (eq_self _)
/-- api.View -/
structure Vw where
  clients : List Cv
  servers : List Sv
  registry : List Cn
  waiting : List Int
  deriving DecidableEq
def vwC (x : Vw) : List AV := [.sl 4 (enc cvC x.clients) none .no, .sl 6 (enc svC x.servers) none .no, .sl 2 (enc cnC x.registry) none .no, .sl 1 (enc intC x.waiting) none .no]
@[simp] theorem vwC_len (x : Vw) : (vwC x).length = 4 := of_eq_true (eq_self _)
@[simp] theorem vwC_unown (x : Vw) : (vwC x).map AV.unown = vwC x := of_eq_true (eq_self _)
@[simp] theorem vwC_take (x : Vw) : List.take 4 (vwC x) = vwC x := of_eq_true (eq_self _)
@[simp] theorem vwC_0 (x : Vw) : (vwC x)[0]? = some (.sl 4 (enc cvC x.clients) none .no) := of_eq_true (eq_self _)
@[simp] theorem vwC_g0 (x : Vw) (h : 0 < (vwC x).length) : (vwC x)[0] = .sl 4 (enc cvC x.clients) none .no := of_eq_true (eq_self _)
@[simp] theorem vwC_1 (x : Vw) : (vwC x)[1]? = some (.sl 6 (enc svC x.servers) none .no) := of_eq_true (eq_self _)
@[simp] theorem vwC_g1 (x : Vw) (h : 1 < (vwC x).length) : (vwC x)[1] = .sl 6 (enc svC x.servers) none .no := of_eq_true (eq_self _)
@[simp] theorem vwC_2 (x : Vw) : (vwC x)[2]? = some (.sl 2 (enc cnC x.registry) none .no) := of_eq_true (eq_self _)
@[simp] theorem vwC_g2 (x : Vw) (h : 2 < (vwC x).length) : (vwC x)[2] = .sl 2 (enc cnC x.registry) none .no := of_eq_true (eq_self _)
@[simp] theorem vwC_3 (x : Vw) : (vwC x)[3]? = some (.sl 1 (enc intC x.waiting) none .no) := of_eq_true (eq_self _)
@[simp] theorem vwC_g3 (x : Vw) (h : 3 < (vwC x).length) : (vwC x)[3] = .sl 1 (enc intC x.waiting) none .no := of_eq_true (eq_self _)
end Go.Proofs.YtofkddajlgebjaaGreat.Ax
/- The contracts of package wire's checks and of what it writes, over values without memory. -/
namespace Go.Proofs.YtofkddajlgebjaaGreat.Ax
open Go.RowKit Go By YtofkddajlgebjaaGreat.Nm Sc Dg
set_option linter.unusedSimpArgs false
set_option maxRecDepth 10000

/-! ### bytes.Equal -/
theorem equal_c (xs ys : List UInt8) (h : List (List AV)) : Contract Tryz.prog 10 [.sl 1 (bytesE xs) none .no, .sl 1 (bytesE ys) none .no] h (.v (.bool (xs == ys))) h [] := by
  refine contract_of k10 mixed (by simp [c10]) fun hh hargs => ?_
  simp [c10, hh]

/-! ### Checks -/
theorem wclean1_c (s : List UInt8) (h : List (List AV)) : Contract Tryz.prog 101 [.v (.string (strB s))] h (.v (.bool (!cleanB s))) h [] := by
  refine contract_of k101 mixed (by simp [c101]) fun hh hargs => ?_
  simp [c101]
  refine xcall_self (by simp) (clean_c s h) ?_
  simp [hh]
theorem wclean_c (l : List (List UInt8)) (hl : l.length ≤ 140737488355328) (h : List (List AV)) : Contract Tryz.prog 68 [.sl 1 (enc strC l) none .no] h (.v (.bool (l.all cleanB))) h [] := by
  refine contract_of k68 mixed (by simp [c68]) fun hh hargs => ?_
  simp [c68]
  refine xcall_self (by simp) (contains1_any mixed k100 k126 (fun s => .v (.string (strB s))) (fun s => !cleanB s) l [] h (by simp) (by simp) (by simp) (fun s _ => wclean1_c s h) hl) ?_
  simp [hh, List.not_any_eq_all_not]
def unsB (size n : Int) : Bool := !decide (n < 0) && rightB n size
theorem wuns1_c (size n : Int) (i : Nat) (h : List (List AV)) (hi : h[i]? = some [.v (.int .i64 size)]) : Contract Tryz.prog 104 [.v (.int .i64 n), .box i 0] h (.v (.bool (!unsB size n))) h [] := by
  refine contract_of k104 mixed (by simp [c104]) fun hh hargs => ?_
  by_cases hn : n < 0
  · simp [c104, hn, hh, unsB]
  · simp [c104, hn, hi]
    refine xcall_self (by simp) (right_c n size h) ?_
    simp [hh, unsB, hn]
theorem wuns_c (size : Int) (l : List Int) (hl : l.length ≤ 140737488355328) (h : List (List AV)) : Contract Tryz.prog 69 [.v (.int .i64 size), .sl 1 (enc intC l) none .no] h (.v (.bool (l.all (unsB size)))) h [] := by
  refine contract_of k69 mixed (by simp [c69]) fun hh hargs => ?_
  simp [c69]
  refine xcall_self (by simp) (contains1_any mixed k103 k128 (fun n => .v (.int .i64 n)) (fun n => !unsB size n) l [.box h.length 0] _ (by simp) (by simp) (by simp) (fun n _ => wuns1_c size n _ _ (by simp)) hl) ?_
  simp [hh, List.not_any_eq_all_not]
def sgnB (size n : Int) : Bool := rightB n size && signedI n size == n
theorem wsgn1_c (size n : Int) (i : Nat) (h : List (List AV)) (hi : h[i]? = some [.v (.int .i64 size)]) : Contract Tryz.prog 132 [.v (.int .i64 n), .box i 0] h (.v (.bool (!sgnB size n))) h [] := by
  refine contract_of k132 mixed (by simp [c132]) fun hh hargs => ?_
  simp [c132, hi]
  refine xcall_self (by simp) (right_c n size h) ?_
  cases hr : rightB n size with
  | false => simp [hh, sgnB, hr]
  | true =>
    simp [hi]
    refine xcall_self (by simp) (signed_c n size h) ?_
    simp [hh, sgnB, hr]
    rfl
theorem wsgn_c (size : Int) (l : List Int) (hl : l.length ≤ 140737488355328) (h : List (List AV)) : Contract Tryz.prog 124 [.v (.int .i64 size), .sl 1 (enc intC l) none .no] h (.v (.bool (l.all (sgnB size)))) h [] := by
  refine contract_of k124 mixed (by simp [c124]) fun hh hargs => ?_
  simp [c124]
  refine xcall_self (by simp) (contains1_any mixed k103 k128 (fun n => .v (.int .i64 n)) (fun n => !sgnB size n) l [.box h.length 0] _ (by simp) (by simp) (by simp) (fun n _ => wsgn1_c size n _ _ (by simp)) hl) ?_
  simp [hh, List.not_any_eq_all_not]
/-- A cell may be said. -/
def cellB (c : Cl) : Bool := decide (c.2.length ≤ 1048576) && !(c.1 && decide (0 < c.2.length))
theorem wcell1_c (c : Cl) (hc : c.2.length ≤ 140737488355328) (h : List (List AV)) : Contract Tryz.prog 122 [.agg (cellC c)] h (.v (.bool (!cellB c))) h [] := by
  refine contract_of k122 mixed (by simp [c122]) fun hh hargs => ?_
  obtain ⟨n, b⟩ := c
  by_cases hb : (1048576 : Int) < b.length
  · have hb' : ¬ b.length ≤ 1048576 := by omega
    simp [c122, cellC, hb, hb', hh, cellB]
  · have hb' : b.length ≤ 1048576 := by omega
    cases n with
    | false => simp [c122, cellC, hb, hb', hh, cellB]
    | true =>
      simp [c122, cellC, hb, hb', hh, cellB]
theorem wcells_c (l : List Cl) (hl : l.length ≤ 140737488355328) (hc : ∀ c ∈ l, c.2.length ≤ 140737488355328) (h : List (List AV)) : Contract Tryz.prog 93 [.sl 2 (enc cellC l) none .no] h (.v (.bool (l.all cellB))) h [] := by
  refine contract_of k93 mixed (by simp [c93]) fun hh hargs => ?_
  simp [c93]
  refine xcall_self (by simp) (containsN_any mixed k121 k131 cellC (fun c => !cellB c) l [] h (by simp) (by simp) (by simp) (fun c hm => wcell1_c c (hc c hm) h) hl) ?_
  simp [hh, List.not_any_eq_all_not]
theorem wsame1_c (a b : Cl) (h : List (List AV)) : Contract Tryz.prog 130 [.agg (cellC a), .agg (cellC b)] h (.v (.bool (a == b))) h [] := by
  refine contract_of k130 mixed (by simp [c130]) fun hh hargs => ?_
  obtain ⟨n, x⟩ := a
  obtain ⟨m, y⟩ := b
  have e : ((n, x) == (m, y)) = (n == m && x == y) := rfl
  cases hnm : n == m with
  | false => simp [c130, cellC, hnm, hh, e]
  | true =>
    simp [c130, cellC, hnm]
    refine xcall_self (by simp) (equal_c x y _) ?_
    simp [hh, e, hnm]
theorem wsame_c (l m : List Cl) (hl : l.length ≤ 140737488355328) (h : List (List AV)) : Contract Tryz.prog 107 [.sl 2 (enc cellC l) none .no, .sl 2 (enc cellC m) none .no] h (.v (.bool (l == m))) h [] := by
  refine contract_of k107 mixed (by simp [c107]) fun hh hargs => ?_
  simp [c107]
  refine xcall_self (by simp) (equalF_any mixed k129 (by rfl) (· == ·) cellC (by simp) (by simp) l m h (fun x y h => wsame1_c x y h) hl) ?_
  simp [hh, eqL_beq]
end Go.Proofs.YtofkddajlgebjaaGreat.Ax
namespace Go.Proofs.YtofkddajlgebjaaGreat.Ax
open Go.RowKit Go By YtofkddajlgebjaaGreat.Nm Sc Dg
set_option linter.unusedSimpArgs false
set_option linter.unusedVariables false
set_option maxRecDepth 10000

theorem wflat_len {α : Type} (e : α → List UInt8) (l : List α) (j : Nat) : ((l.take j).flatMap e).length ≤ (l.flatMap e).length := by
  conv => rhs; rw [← List.take_append_drop j l]
  rw [List.flatMap_append, List.length_append]; omega
theorem flat_next {α : Type} (e : α → List UInt8) {l : List α} {j : Nat} (hj : j < l.length) : (l.take (j + 1)).flatMap e = (l.take j).flatMap e ++ e l[j] := by
  rw [take_next hj, List.flatMap_append]; simp
theorem put_len (n size : Int) (h4 : size ≤ 4) (xs : List UInt8) : (putL xs n size).length ≤ xs.length + 4 := by
  unfold putL
  split
  · simp [putTo_length]; omega
  · omega
/-- What is appended element by element. -/
theorem flat_step {α : Type} (e : α → List UInt8) (l : List α) (a j : Nat) (hj : j < l.length) (N : Nat) (hN : a + (l.flatMap e).length ≤ N) : (l.take (j + 1)).flatMap e = (l.take j).flatMap e ++ e l[j] ∧ a + (((l.take j).flatMap e).length + (e l[j]).length) ≤ N := by
  have h1 := flat_next e hj
  have h2 := wflat_len e l (j + 1)
  rw [h1, List.length_append] at h2
  exact ⟨h1, by omega⟩

/-! ### Texts -/
def textsL (l : List (List UInt8)) : List UInt8 := l.flatMap He.encT
theorem wtexts_c (l : List (List UInt8)) (hl : (textsL l).length ≤ 140737488355328) (h : List (List AV)) : Contract Tryz.prog 73 [.sl 1 (enc strC l) none .no] h (.sl 1 (bytesE (textsL l)) none (.own .res)) h [] := by
  have hn : ∀ l : List (List UInt8), l.length ≤ (textsL l).length := fun l => by
    induction l with
    | nil => simp
    | cons x r ih => simp [textsL, He.encT] at ih ⊢; omega
  have hl0 := hn l
  refine contract_of k73 mixed (by simp [c73]) fun hh hargs => ?_
  simp at hargs
  simp [c73]
  refine xloop_ok (D := Nat) (fun j => ⟨[(6, .sl 1 (enc strC l) none .no), (7, .v (.int .i64 l.length)), (8, .v (.int .i64 j))], [(3, .sl 1 (bytesE (textsL (l.take j))) none (.own (.slot 3)))], h, []⟩) (fun j => j ≤ l.length) (fun j => l.length - j) 0 (by simp) ?_ ?_
  · simp [Leq, hh, hargs, textsL]
  · intro j hj
    by_cases hlt : j < l.length
    · have hlt' : (j : Int) < l.length := by omega
      have hw : IntKind.i64.wrap ((j : Int) + 1) = (j : Int) + 1 := wrap64 (by omega) (by omega)
      obtain ⟨hx, hb⟩ := flat_step He.encT l 0 j hlt _ (by simpa [textsL] using hl)
      have hx' : textsL (l.take (j + 1)) = textsL (l.take j) ++ (l[j] ++ [0]) := hx
      have hb' : 0 + ((textsL (l.take j)).length + (l[j] ++ [0]).length) ≤ 140737488355328 := hb
      rw [List.length_append, List.length_singleton] at hb'
      simp [hlt, hlt', strC, hw]
      refine ⟨by omega, by omega, j + 1, by omega, by omega, ?_⟩
      simp [Leq, hh, hargs, hx']
    · have hlt' : ¬ (j : Int) < l.length := by omega
      have : j = l.length := by omega
      subst this
      simp [hh]

/-! ### Lists -/
def listL {α : Type} (e : α → List UInt8) (l : List α) : List UInt8 := putL [] l.length 2 ++ l.flatMap e
theorem wlistI_c (e : Int → List UInt8) (l : List Int) (g : FuncId) (cap : List AV) (h : List (List AV)) (hl : (listL e l).length ≤ 140737488355328) (hl2 : l.length ≤ 140737488355328) (hcap : ∀ c ∈ cap, c.idOf = none) (hlt : ltL h.length cap)
    (hg : ∀ n, n ∈ l → Contract Tryz.prog g (.v (.int .i64 n) :: cap) h (.sl 1 (bytesE (e n)) none (.own .res)) h []) :
    Contract Tryz.prog 112 [.sl 1 (enc intC l) none .no, .fn (.func g) [] cap] h (.sl 1 (bytesE (listL e l)) none (.own .res)) h [] := by
  refine contract_of k112 mixed (by simp [c112]) fun hh hargs => ?_
  simp at hargs
  simp [c112]
  refine xcall_of (put_c [] l.length 2 (by simp) h) (by simp) (by simp) ?_
  simp
  refine xloop_ok (D := Nat) (fun j => ⟨[(1, .fn (.func g) [] cap), (11, .sl 1 (enc intC l) none .no), (12, .v (.int .i64 l.length)), (13, .v (.int .i64 j))], [(5, .sl 1 (bytesE (putL [] l.length 2 ++ (l.take j).flatMap e)) none (.own (.slot 5)))], h, []⟩) (fun j => j ≤ l.length) (fun j => l.length - j) 0 (by simp) ?_ ?_
  · simp [Leq, hh, hargs]
  · intro j hj
    by_cases hlt : j < l.length
    · have hlt' : (j : Int) < l.length := by omega
      have hw : IntKind.i64.wrap ((j : Int) + 1) = (j : Int) + 1 := wrap64 (by omega) (by omega)
      obtain ⟨hx, hb⟩ := flat_step e l (putL [] l.length 2).length j hlt _ (by simpa [listL] using hl)
      have hq : ∀ y ∈ (AV.v (.int .i64 l[j])) :: cap, y.idOf = none := by simpa using hcap
      simp [hlt, hlt', intC]
      refine ⟨hcap, xcall_self hq (hg l[j] (List.getElem_mem _)) ?_⟩
      simp [idsOf_none hq, idsOf_none hcap, hw, -List.length_flatMap]
      refine ⟨by omega, j + 1, by omega, by omega, ?_⟩
      simp [Leq, hh, hargs, hx]
    · have hlt' : ¬ (j : Int) < l.length := by omega
      have : j = l.length := by omega
      subst this
      simp [hh, listL]
theorem wlistC_c (e : Cl → List UInt8) (l : List Cl) (g : FuncId) (cap : List AV) (h : List (List AV)) (hl : (listL e l).length ≤ 140737488355328) (hl2 : l.length ≤ 140737488355328) (hcap : ∀ c ∈ cap, c.idOf = none) (hlt : ltL h.length cap)
    (hg : ∀ n, n ∈ l → ∀ h', Contract Tryz.prog g (.agg (cellC n) :: cap) (h ++ h') (.sl 1 (bytesE (e n)) none (.own .res)) (h ++ h') []) :
    Contract Tryz.prog 109 [.sl 2 (enc cellC l) none .no, .fn (.func g) [] cap] h (.sl 1 (bytesE (listL e l)) none (.own .res)) h [] := by
  refine contract_of k109 mixed (by simp [c109]) fun hh hargs => ?_
  simp at hargs
  simp [c109]
  refine xcall_of (put_c [] l.length 2 (by simp) h) (by simp) (by simp) ?_
  simp
  refine xloop_ok (D := Nat) (fun j => ⟨[(1, .fn (.func g) [] cap), (11, .sl 2 (enc cellC l) none .no), (12, .v (.int .i64 l.length)), (13, .v (.int .i64 j))], [(5, .sl 1 (bytesE (putL [] l.length 2 ++ (l.take j).flatMap e)) none (.own (.slot 5)))], h, []⟩) (fun j => j ≤ l.length) (fun j => l.length - j) 0 (by simp) ?_ ?_
  · simp [Leq, hh, hargs]
  · intro j hj
    by_cases hlt : j < l.length
    · have hlt' : (j : Int) < l.length := by omega
      have hw : IntKind.i64.wrap ((j : Int) + 1) = (j : Int) + 1 := wrap64 (by omega) (by omega)
      obtain ⟨hx, hb⟩ := flat_step e l (putL [] l.length 2).length j hlt _ (by simpa [listL] using hl)
      have hq : ∀ y ∈ (AV.agg (cellC l[j])) :: cap, y.idOf = none := by simpa using hcap
      simp [hlt, hlt']
      refine ⟨hcap, xcall_self hq (hg l[j] (List.getElem_mem _) _) ?_⟩
      simp [idsOf_none hq, idsOf_none hcap, hw, -List.length_flatMap]
      refine ⟨by omega, j + 1, by omega, by omega, ?_⟩
      simp [Leq, hh, hargs, hx]
    · have hlt' : ¬ (j : Int) < l.length := by omega
      have : j = l.length := by omega
      subst this
      simp [hh, listL]
def numE (size : Int) (n : Int) : List UInt8 := putL [] n size
theorem wnum1_c (size n : Int) (i : Nat) (h : List (List AV)) (hi : h[i]? = some [.v (.int .i64 size)]) : Contract Tryz.prog 113 [.v (.int .i64 n), .box i 0] h (.sl 1 (bytesE (numE size n)) none (.own .res)) h [] := by
  refine contract_of k113 mixed (by simp [c113]) fun hh hargs => ?_
  simp [c113, hi]
  refine xcall_of (put_c [] n size (by simp) h) (by simp) (by simp) ?_
  simp [hh, numE]
theorem wnumbers_c (size : Int) (l : List Int) (h : List (List AV)) (hl : (listL (numE size) l).length ≤ 140737488355328) (hl2 : l.length ≤ 140737488355328) :
    Contract Tryz.prog 77 [.v (.int .i64 size), .sl 1 (enc intC l) none .no] h (.sl 1 (bytesE (listL (numE size) l)) none (.own .res)) h [] := by
  refine contract_of k77 mixed (by simp [c77]) fun hh hargs => ?_
  simp [c77]
  refine xcall_self (by simp) (wlistI_c (numE size) l _ [.box h.length 0] _ hl hl2 (by simp) (by simp) fun n _ => wnum1_c size n _ _ (by simp)) ?_
  simp [hh]
/-- A cell's bytes. -/
def cellE (c : Cl) : List UInt8 := if c.1 = true then putL [] 4294967295 4 else putL [] c.2.length 4 ++ c.2
theorem cellE_null (b : List UInt8) : cellE (true, b) = putL [] 4294967295 4 := if_pos rfl
theorem cellE_bytes (b : List UInt8) : cellE (false, b) = putL [] b.length 4 ++ b := if_neg (by simp)
theorem wcell_c (c : Cl) (h : List (List AV)) (hl : c.2.length ≤ 70000000000000) : Contract Tryz.prog 110 [.agg (cellC c)] h (.sl 1 (bytesE (cellE c)) none (.own .res)) h [] := by
  refine contract_of k110 mixed (by simp [c110]) fun hh hargs => ?_
  obtain ⟨n, b⟩ := c
  cases n with
  | true =>
    rw [cellE_null]
    generalize hN : (4294967295 : Int) = N
    have hc : c110 = c110 := rfl
    simp [c110, cellC, hN]
    refine xcall_of (put_c [] N 4 (by simp) _) (by simp) (by simp) ?_
    simp [hh]
  | false =>
    have hp := put_len b.length 4 (by omega) []
    rw [cellE_bytes]
    simp [c110, cellC]
    refine xcall_of (put_c [] b.length 4 (by simp) _) (by simp) (by simp) ?_
    simp at hl hp
    simp [hh]
    omega
theorem wcells2_c (l : List Cl) (h : List (List AV)) (hl : (listL cellE l).length ≤ 140737488355328) (hl2 : l.length ≤ 140737488355328) (hl3 : ∀ c ∈ l, c.2.length ≤ 70000000000000) :
    Contract Tryz.prog 74 [.sl 2 (enc cellC l) none .no] h (.sl 1 (bytesE (listL cellE l)) none (.own .res)) h [] := by
  refine contract_of k74 mixed (by simp [c74]) fun hh hargs => ?_
  simp [c74]
  refine xcall_self (by simp) (wlistC_c cellE l _ [] _ hl hl2 (by simp) (by simp) fun n hn h' => wcell_c n _ (hl3 n hn)) ?_
  simp [hh]
end Go.Proofs.YtofkddajlgebjaaGreat.Ax
