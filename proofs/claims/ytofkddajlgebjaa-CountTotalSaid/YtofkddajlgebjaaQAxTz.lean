/- What reads as data of the types of package api is laid out as their structures are. Written by gen/ax_types.py. -/
import Derived.Test.YtofkddajlgebjaaQAxX
import Derived.Test.YtofkddajlgebjaaRows
/- The types of package api as Lean structures, and how they are laid out. No program is named here. Written by gen/ax_types.py. -/
namespace Go.Proofs.Ytofkddajlgebjaa.Ax
open Go.RowKit Go By
set_option linter.unusedSimpArgs false
set_option linter.unusedVariables false

abbrev Cl := Bool × List UInt8
def cellC (c : Cl) : List AV := [.v (.bool c.1), .sl 1 (bytesE c.2) none .no]
@[simp] theorem cellC_len (x : Cl) : (cellC x).length = 2 := of_eq_true (eq_self _)
@[simp] theorem cellC_unown (x : Cl) : (cellC x).map AV.unown = cellC x := of_eq_true (eq_self _)
@[simp] theorem cellC_take (x : Cl) : List.take 2 (cellC x) = cellC x := of_eq_true (eq_self _)
@[simp] theorem cellC_0 (x : Cl) : (cellC x)[0]? = some (.v (.bool x.1)) := of_eq_true (eq_self _)
@[simp] theorem cellC_g0 (x : Cl) (h : 0 < (cellC x).length) : (cellC x)[0] = .v (.bool x.1) := of_eq_true (eq_self _)
@[simp] theorem cellC_1 (x : Cl) : (cellC x)[1]? = some (.sl 1 (bytesE x.2) none .no) := of_eq_true (eq_self _)
@[simp] theorem cellC_g1 (x : Cl) (h : 1 < (cellC x).length) : (cellC x)[1] = .sl 1 (bytesE x.2) none .no := of_eq_true (eq_self _)
/-- api.Msg -/
structure Ms where
  type : Int
  body : List UInt8
  deriving DecidableEq
def msC (x : Ms) : List AV := [.v (.int .u8 x.type), .sl 1 (bytesE x.body) none .no]
@[simp] theorem msC_len (x : Ms) : (msC x).length = 2 := of_eq_true (eq_self _)
@[simp] theorem msC_unown (x : Ms) : (msC x).map AV.unown = msC x := of_eq_true (eq_self _)
@[simp] theorem msC_take (x : Ms) : List.take 2 (msC x) = msC x := of_eq_true (eq_self _)
@[simp] theorem msC_0 (x : Ms) : (msC x)[0]? = some (.v (.int .u8 x.type)) := of_eq_true (eq_self _)
@[simp] theorem msC_g0 (x : Ms) (h : 0 < (msC x).length) : (msC x)[0] = .v (.int .u8 x.type) := of_eq_true (eq_self _)
@[simp] theorem msC_1 (x : Ms) : (msC x)[1]? = some (.sl 1 (bytesE x.body) none .no) := of_eq_true (eq_self _)
@[simp] theorem msC_g1 (x : Ms) (h : 1 < (msC x).length) : (msC x)[1] = .sl 1 (bytesE x.body) none .no := of_eq_true (eq_self _)
/-- api.Pair -/
structure Pa where
  name : List UInt8
  value : List UInt8
  deriving DecidableEq
def paC (x : Pa) : List AV := [.v (.string (strB x.name)), .v (.string (strB x.value))]
@[simp] theorem paC_len (x : Pa) : (paC x).length = 2 := of_eq_true (eq_self _)
@[simp] theorem paC_unown (x : Pa) : (paC x).map AV.unown = paC x := of_eq_true (eq_self _)
@[simp] theorem paC_take (x : Pa) : List.take 2 (paC x) = paC x := of_eq_true (eq_self _)
@[simp] theorem paC_0 (x : Pa) : (paC x)[0]? = some (.v (.string (strB x.name))) := of_eq_true (eq_self _)
@[simp] theorem paC_g0 (x : Pa) (h : 0 < (paC x).length) : (paC x)[0] = .v (.string (strB x.name)) := of_eq_true (eq_self _)
@[simp] theorem paC_1 (x : Pa) : (paC x)[1]? = some (.v (.string (strB x.value))) := of_eq_true (eq_self _)
@[simp] theorem paC_g1 (x : Pa) (h : 1 < (paC x).length) : (paC x)[1] = .v (.string (strB x.value)) := of_eq_true (eq_self _)
/-- api.Col -/
structure Co where
  name : List UInt8
  table : Int
  attr : Int
  oid : Int
  size : Int
  mod : Int
  format : Int
  deriving DecidableEq
def coC (x : Co) : List AV := [.v (.string (strB x.name)), .v (.int .i64 x.table), .v (.int .i64 x.attr), .v (.int .i64 x.oid), .v (.int .i64 x.size), .v (.int .i64 x.mod), .v (.int .i64 x.format)]
@[simp] theorem coC_len (x : Co) : (coC x).length = 7 := of_eq_true (eq_self _)
@[simp] theorem coC_unown (x : Co) : (coC x).map AV.unown = coC x := of_eq_true (eq_self _)
@[simp] theorem coC_take (x : Co) : List.take 7 (coC x) = coC x := of_eq_true (eq_self _)
@[simp] theorem coC_0 (x : Co) : (coC x)[0]? = some (.v (.string (strB x.name))) := of_eq_true (eq_self _)
@[simp] theorem coC_g0 (x : Co) (h : 0 < (coC x).length) : (coC x)[0] = .v (.string (strB x.name)) := of_eq_true (eq_self _)
@[simp] theorem coC_1 (x : Co) : (coC x)[1]? = some (.v (.int .i64 x.table)) := of_eq_true (eq_self _)
@[simp] theorem coC_g1 (x : Co) (h : 1 < (coC x).length) : (coC x)[1] = .v (.int .i64 x.table) := of_eq_true (eq_self _)
@[simp] theorem coC_2 (x : Co) : (coC x)[2]? = some (.v (.int .i64 x.attr)) := of_eq_true (eq_self _)
@[simp] theorem coC_g2 (x : Co) (h : 2 < (coC x).length) : (coC x)[2] = .v (.int .i64 x.attr) := of_eq_true (eq_self _)
@[simp] theorem coC_3 (x : Co) : (coC x)[3]? = some (.v (.int .i64 x.oid)) := of_eq_true (eq_self _)
@[simp] theorem coC_g3 (x : Co) (h : 3 < (coC x).length) : (coC x)[3] = .v (.int .i64 x.oid) := of_eq_true (eq_self _)
@[simp] theorem coC_4 (x : Co) : (coC x)[4]? = some (.v (.int .i64 x.size)) := of_eq_true (eq_self _)
@[simp] theorem coC_g4 (x : Co) (h : 4 < (coC x).length) : (coC x)[4] = .v (.int .i64 x.size) := of_eq_true (eq_self _)
@[simp] theorem coC_5 (x : Co) : (coC x)[5]? = some (.v (.int .i64 x.mod)) := of_eq_true (eq_self _)
@[simp] theorem coC_g5 (x : Co) (h : 5 < (coC x).length) : (coC x)[5] = .v (.int .i64 x.mod) := of_eq_true (eq_self _)
@[simp] theorem coC_6 (x : Co) : (coC x)[6]? = some (.v (.int .i64 x.format)) := of_eq_true (eq_self _)
@[simp] theorem coC_g6 (x : Co) (h : 6 < (coC x).length) : (coC x)[6] = .v (.int .i64 x.format) := of_eq_true (eq_self _)
/-- api.Field -/
structure Fi where
  code : Int
  text : List UInt8
  deriving DecidableEq
def fiC (x : Fi) : List AV := [.v (.int .u8 x.code), .v (.string (strB x.text))]
@[simp] theorem fiC_len (x : Fi) : (fiC x).length = 2 := of_eq_true (eq_self _)
@[simp] theorem fiC_unown (x : Fi) : (fiC x).map AV.unown = fiC x := of_eq_true (eq_self _)
@[simp] theorem fiC_take (x : Fi) : List.take 2 (fiC x) = fiC x := of_eq_true (eq_self _)
@[simp] theorem fiC_0 (x : Fi) : (fiC x)[0]? = some (.v (.int .u8 x.code)) := of_eq_true (eq_self _)
@[simp] theorem fiC_g0 (x : Fi) (h : 0 < (fiC x).length) : (fiC x)[0] = .v (.int .u8 x.code) := of_eq_true (eq_self _)
@[simp] theorem fiC_1 (x : Fi) : (fiC x)[1]? = some (.v (.string (strB x.text))) := of_eq_true (eq_self _)
@[simp] theorem fiC_g1 (x : Fi) (h : 1 < (fiC x).length) : (fiC x)[1] = .v (.string (strB x.text)) := of_eq_true (eq_self _)
/-- api.Stmt -/
structure Sm where
  text : List UInt8
  oids : List Int
  deriving DecidableEq
def smC (x : Sm) : List AV := [.v (.string (strB x.text)), .sl 1 (enc intC x.oids) none .no]
@[simp] theorem smC_len (x : Sm) : (smC x).length = 2 := of_eq_true (eq_self _)
@[simp] theorem smC_unown (x : Sm) : (smC x).map AV.unown = smC x := of_eq_true (eq_self _)
@[simp] theorem smC_take (x : Sm) : List.take 2 (smC x) = smC x := of_eq_true (eq_self _)
@[simp] theorem smC_0 (x : Sm) : (smC x)[0]? = some (.v (.string (strB x.text))) := of_eq_true (eq_self _)
@[simp] theorem smC_g0 (x : Sm) (h : 0 < (smC x).length) : (smC x)[0] = .v (.string (strB x.text)) := of_eq_true (eq_self _)
@[simp] theorem smC_1 (x : Sm) : (smC x)[1]? = some (.sl 1 (enc intC x.oids) none .no) := of_eq_true (eq_self _)
@[simp] theorem smC_g1 (x : Sm) (h : 1 < (smC x).length) : (smC x)[1] = .sl 1 (enc intC x.oids) none .no := of_eq_true (eq_self _)
/-- api.Hello -/
structure Hm where
  code : Int
  process : Int
  secret : Int
  params : List Pa
  deriving DecidableEq
def hmC (x : Hm) : List AV := [.v (.int .i64 x.code), .v (.int .i64 x.process), .v (.int .i64 x.secret), .sl 2 (enc paC x.params) none .no]
@[simp] theorem hmC_len (x : Hm) : (hmC x).length = 4 := of_eq_true (eq_self _)
@[simp] theorem hmC_unown (x : Hm) : (hmC x).map AV.unown = hmC x := of_eq_true (eq_self _)
@[simp] theorem hmC_take (x : Hm) : List.take 4 (hmC x) = hmC x := of_eq_true (eq_self _)
@[simp] theorem hmC_0 (x : Hm) : (hmC x)[0]? = some (.v (.int .i64 x.code)) := of_eq_true (eq_self _)
@[simp] theorem hmC_g0 (x : Hm) (h : 0 < (hmC x).length) : (hmC x)[0] = .v (.int .i64 x.code) := of_eq_true (eq_self _)
@[simp] theorem hmC_1 (x : Hm) : (hmC x)[1]? = some (.v (.int .i64 x.process)) := of_eq_true (eq_self _)
@[simp] theorem hmC_g1 (x : Hm) (h : 1 < (hmC x).length) : (hmC x)[1] = .v (.int .i64 x.process) := of_eq_true (eq_self _)
@[simp] theorem hmC_2 (x : Hm) : (hmC x)[2]? = some (.v (.int .i64 x.secret)) := of_eq_true (eq_self _)
@[simp] theorem hmC_g2 (x : Hm) (h : 2 < (hmC x).length) : (hmC x)[2] = .v (.int .i64 x.secret) := of_eq_true (eq_self _)
@[simp] theorem hmC_3 (x : Hm) : (hmC x)[3]? = some (.sl 2 (enc paC x.params) none .no) := of_eq_true (eq_self _)
@[simp] theorem hmC_g3 (x : Hm) (h : 3 < (hmC x).length) : (hmC x)[3] = .sl 2 (enc paC x.params) none .no := of_eq_true (eq_self _)
/-- api.Front -/
structure Fm where
  kind : Int
  what : Int
  name : List UInt8
  portal : List UInt8
  text : List UInt8
  oids : List Int
  formats : List Int
  results : List Int
  params : List Cl
  max : Int
  deriving DecidableEq
def fmC (x : Fm) : List AV := [.v (.int .u8 x.kind), .v (.int .u8 x.what), .v (.string (strB x.name)), .v (.string (strB x.portal)), .v (.string (strB x.text)), .sl 1 (enc intC x.oids) none .no, .sl 1 (enc intC x.formats) none .no, .sl 1 (enc intC x.results) none .no, .sl 2 (enc cellC x.params) none .no, .v (.int .i64 x.max)]
@[simp] theorem fmC_len (x : Fm) : (fmC x).length = 10 := of_eq_true (eq_self _)
@[simp] theorem fmC_unown (x : Fm) : (fmC x).map AV.unown = fmC x := of_eq_true (eq_self _)
@[simp] theorem fmC_take (x : Fm) : List.take 10 (fmC x) = fmC x := of_eq_true (eq_self _)
@[simp] theorem fmC_0 (x : Fm) : (fmC x)[0]? = some (.v (.int .u8 x.kind)) := of_eq_true (eq_self _)
@[simp] theorem fmC_g0 (x : Fm) (h : 0 < (fmC x).length) : (fmC x)[0] = .v (.int .u8 x.kind) := of_eq_true (eq_self _)
@[simp] theorem fmC_1 (x : Fm) : (fmC x)[1]? = some (.v (.int .u8 x.what)) := of_eq_true (eq_self _)
@[simp] theorem fmC_g1 (x : Fm) (h : 1 < (fmC x).length) : (fmC x)[1] = .v (.int .u8 x.what) := of_eq_true (eq_self _)
@[simp] theorem fmC_2 (x : Fm) : (fmC x)[2]? = some (.v (.string (strB x.name))) := of_eq_true (eq_self _)
@[simp] theorem fmC_g2 (x : Fm) (h : 2 < (fmC x).length) : (fmC x)[2] = .v (.string (strB x.name)) := of_eq_true (eq_self _)
@[simp] theorem fmC_3 (x : Fm) : (fmC x)[3]? = some (.v (.string (strB x.portal))) := of_eq_true (eq_self _)
@[simp] theorem fmC_g3 (x : Fm) (h : 3 < (fmC x).length) : (fmC x)[3] = .v (.string (strB x.portal)) := of_eq_true (eq_self _)
@[simp] theorem fmC_4 (x : Fm) : (fmC x)[4]? = some (.v (.string (strB x.text))) := of_eq_true (eq_self _)
@[simp] theorem fmC_g4 (x : Fm) (h : 4 < (fmC x).length) : (fmC x)[4] = .v (.string (strB x.text)) := of_eq_true (eq_self _)
@[simp] theorem fmC_5 (x : Fm) : (fmC x)[5]? = some (.sl 1 (enc intC x.oids) none .no) := of_eq_true (eq_self _)
@[simp] theorem fmC_g5 (x : Fm) (h : 5 < (fmC x).length) : (fmC x)[5] = .sl 1 (enc intC x.oids) none .no := of_eq_true (eq_self _)
@[simp] theorem fmC_6 (x : Fm) : (fmC x)[6]? = some (.sl 1 (enc intC x.formats) none .no) := of_eq_true (eq_self _)
@[simp] theorem fmC_g6 (x : Fm) (h : 6 < (fmC x).length) : (fmC x)[6] = .sl 1 (enc intC x.formats) none .no := of_eq_true (eq_self _)
@[simp] theorem fmC_7 (x : Fm) : (fmC x)[7]? = some (.sl 1 (enc intC x.results) none .no) := of_eq_true (eq_self _)
@[simp] theorem fmC_g7 (x : Fm) (h : 7 < (fmC x).length) : (fmC x)[7] = .sl 1 (enc intC x.results) none .no := of_eq_true (eq_self _)
@[simp] theorem fmC_8 (x : Fm) : (fmC x)[8]? = some (.sl 2 (enc cellC x.params) none .no) := of_eq_true (eq_self _)
@[simp] theorem fmC_g8 (x : Fm) (h : 8 < (fmC x).length) : (fmC x)[8] = .sl 2 (enc cellC x.params) none .no := of_eq_true (eq_self _)
@[simp] theorem fmC_9 (x : Fm) : (fmC x)[9]? = some (.v (.int .i64 x.max)) := of_eq_true (eq_self _)
@[simp] theorem fmC_g9 (x : Fm) (h : 9 < (fmC x).length) : (fmC x)[9] = .v (.int .i64 x.max) := of_eq_true (eq_self _)
/-- api.Back -/
structure Bk where
  kind : Int
  status : Int
  tag : List UInt8
  name : List UInt8
  value : List UInt8
  n : Int
  m : Int
  oids : List Int
  cols : List Co
  row : List Cl
  fields : List Fi
  deriving DecidableEq
def bkC (x : Bk) : List AV := [.v (.int .u8 x.kind), .v (.int .u8 x.status), .v (.string (strB x.tag)), .v (.string (strB x.name)), .v (.string (strB x.value)), .v (.int .i64 x.n), .v (.int .i64 x.m), .sl 1 (enc intC x.oids) none .no, .sl 7 (enc coC x.cols) none .no, .sl 2 (enc cellC x.row) none .no, .sl 2 (enc fiC x.fields) none .no]
@[simp] theorem bkC_len (x : Bk) : (bkC x).length = 11 := of_eq_true (eq_self _)
@[simp] theorem bkC_unown (x : Bk) : (bkC x).map AV.unown = bkC x := of_eq_true (eq_self _)
@[simp] theorem bkC_take (x : Bk) : List.take 11 (bkC x) = bkC x := of_eq_true (eq_self _)
@[simp] theorem bkC_0 (x : Bk) : (bkC x)[0]? = some (.v (.int .u8 x.kind)) := of_eq_true (eq_self _)
@[simp] theorem bkC_g0 (x : Bk) (h : 0 < (bkC x).length) : (bkC x)[0] = .v (.int .u8 x.kind) := of_eq_true (eq_self _)
@[simp] theorem bkC_1 (x : Bk) : (bkC x)[1]? = some (.v (.int .u8 x.status)) := of_eq_true (eq_self _)
@[simp] theorem bkC_g1 (x : Bk) (h : 1 < (bkC x).length) : (bkC x)[1] = .v (.int .u8 x.status) := of_eq_true (eq_self _)
@[simp] theorem bkC_2 (x : Bk) : (bkC x)[2]? = some (.v (.string (strB x.tag))) := of_eq_true (eq_self _)
@[simp] theorem bkC_g2 (x : Bk) (h : 2 < (bkC x).length) : (bkC x)[2] = .v (.string (strB x.tag)) := of_eq_true (eq_self _)
@[simp] theorem bkC_3 (x : Bk) : (bkC x)[3]? = some (.v (.string (strB x.name))) := of_eq_true (eq_self _)
@[simp] theorem bkC_g3 (x : Bk) (h : 3 < (bkC x).length) : (bkC x)[3] = .v (.string (strB x.name)) := of_eq_true (eq_self _)
@[simp] theorem bkC_4 (x : Bk) : (bkC x)[4]? = some (.v (.string (strB x.value))) := of_eq_true (eq_self _)
@[simp] theorem bkC_g4 (x : Bk) (h : 4 < (bkC x).length) : (bkC x)[4] = .v (.string (strB x.value)) := of_eq_true (eq_self _)
@[simp] theorem bkC_5 (x : Bk) : (bkC x)[5]? = some (.v (.int .i64 x.n)) := of_eq_true (eq_self _)
@[simp] theorem bkC_g5 (x : Bk) (h : 5 < (bkC x).length) : (bkC x)[5] = .v (.int .i64 x.n) := of_eq_true (eq_self _)
@[simp] theorem bkC_6 (x : Bk) : (bkC x)[6]? = some (.v (.int .i64 x.m)) := of_eq_true (eq_self _)
@[simp] theorem bkC_g6 (x : Bk) (h : 6 < (bkC x).length) : (bkC x)[6] = .v (.int .i64 x.m) := of_eq_true (eq_self _)
@[simp] theorem bkC_7 (x : Bk) : (bkC x)[7]? = some (.sl 1 (enc intC x.oids) none .no) := of_eq_true (eq_self _)
@[simp] theorem bkC_g7 (x : Bk) (h : 7 < (bkC x).length) : (bkC x)[7] = .sl 1 (enc intC x.oids) none .no := of_eq_true (eq_self _)
@[simp] theorem bkC_8 (x : Bk) : (bkC x)[8]? = some (.sl 7 (enc coC x.cols) none .no) := of_eq_true (eq_self _)
@[simp] theorem bkC_g8 (x : Bk) (h : 8 < (bkC x).length) : (bkC x)[8] = .sl 7 (enc coC x.cols) none .no := of_eq_true (eq_self _)
@[simp] theorem bkC_9 (x : Bk) : (bkC x)[9]? = some (.sl 2 (enc cellC x.row) none .no) := of_eq_true (eq_self _)
@[simp] theorem bkC_g9 (x : Bk) (h : 9 < (bkC x).length) : (bkC x)[9] = .sl 2 (enc cellC x.row) none .no := of_eq_true (eq_self _)
@[simp] theorem bkC_10 (x : Bk) : (bkC x)[10]? = some (.sl 2 (enc fiC x.fields) none .no) := of_eq_true (eq_self _)
@[simp] theorem bkC_g10 (x : Bk) (h : 10 < (bkC x).length) : (bkC x)[10] = .sl 2 (enc fiC x.fields) none .no := of_eq_true (eq_self _)
/-- api.TableOp -/
structure To where
  set : Bool
  name : List UInt8
  id : Int
  deriving DecidableEq
def toC (x : To) : List AV := [.v (.bool x.set), .v (.string (strB x.name)), .v (.int .i64 x.id)]
@[simp] theorem toC_len (x : To) : (toC x).length = 3 := of_eq_true (eq_self _)
@[simp] theorem toC_unown (x : To) : (toC x).map AV.unown = toC x := of_eq_true (eq_self _)
@[simp] theorem toC_take (x : To) : List.take 3 (toC x) = toC x := of_eq_true (eq_self _)
@[simp] theorem toC_0 (x : To) : (toC x)[0]? = some (.v (.bool x.set)) := of_eq_true (eq_self _)
@[simp] theorem toC_g0 (x : To) (h : 0 < (toC x).length) : (toC x)[0] = .v (.bool x.set) := of_eq_true (eq_self _)
@[simp] theorem toC_1 (x : To) : (toC x)[1]? = some (.v (.string (strB x.name))) := of_eq_true (eq_self _)
@[simp] theorem toC_g1 (x : To) (h : 1 < (toC x).length) : (toC x)[1] = .v (.string (strB x.name)) := of_eq_true (eq_self _)
@[simp] theorem toC_2 (x : To) : (toC x)[2]? = some (.v (.int .i64 x.id)) := of_eq_true (eq_self _)
@[simp] theorem toC_g2 (x : To) (h : 2 < (toC x).length) : (toC x)[2] = .v (.int .i64 x.id) := of_eq_true (eq_self _)
/-- api.CacheOp -/
structure Oc where
  kind : Int
  id : Int
  deriving DecidableEq
def ocC (x : Oc) : List AV := [.v (.int .i64 x.kind), .v (.int .i64 x.id)]
@[simp] theorem ocC_len (x : Oc) : (ocC x).length = 2 := of_eq_true (eq_self _)
@[simp] theorem ocC_unown (x : Oc) : (ocC x).map AV.unown = ocC x := of_eq_true (eq_self _)
@[simp] theorem ocC_take (x : Oc) : List.take 2 (ocC x) = ocC x := of_eq_true (eq_self _)
@[simp] theorem ocC_0 (x : Oc) : (ocC x)[0]? = some (.v (.int .i64 x.kind)) := of_eq_true (eq_self _)
@[simp] theorem ocC_g0 (x : Oc) (h : 0 < (ocC x).length) : (ocC x)[0] = .v (.int .i64 x.kind) := of_eq_true (eq_self _)
@[simp] theorem ocC_1 (x : Oc) : (ocC x)[1]? = some (.v (.int .i64 x.id)) := of_eq_true (eq_self _)
@[simp] theorem ocC_g1 (x : Oc) (h : 1 < (ocC x).length) : (ocC x)[1] = .v (.int .i64 x.id) := of_eq_true (eq_self _)
/-- api.Entry -/
structure En where
  kind : Int
  hide : Bool
  from_ : List UInt8
  to : List UInt8
  good : List To
  bad : List To
  cache : List Oc
  reply : List UInt8
  deriving DecidableEq
def enC (x : En) : List AV := [.v (.int .i64 x.kind), .v (.bool x.hide), .v (.string (strB x.from_)), .v (.string (strB x.to)), .sl 3 (enc toC x.good) none .no, .sl 3 (enc toC x.bad) none .no, .sl 2 (enc ocC x.cache) none .no, .sl 1 (bytesE x.reply) none .no]
@[simp] theorem enC_len (x : En) : (enC x).length = 8 := of_eq_true (eq_self _)
@[simp] theorem enC_unown (x : En) : (enC x).map AV.unown = enC x := of_eq_true (eq_self _)
@[simp] theorem enC_take (x : En) : List.take 8 (enC x) = enC x := of_eq_true (eq_self _)
@[simp] theorem enC_0 (x : En) : (enC x)[0]? = some (.v (.int .i64 x.kind)) := of_eq_true (eq_self _)
@[simp] theorem enC_g0 (x : En) (h : 0 < (enC x).length) : (enC x)[0] = .v (.int .i64 x.kind) := of_eq_true (eq_self _)
@[simp] theorem enC_1 (x : En) : (enC x)[1]? = some (.v (.bool x.hide)) := of_eq_true (eq_self _)
@[simp] theorem enC_g1 (x : En) (h : 1 < (enC x).length) : (enC x)[1] = .v (.bool x.hide) := of_eq_true (eq_self _)
@[simp] theorem enC_2 (x : En) : (enC x)[2]? = some (.v (.string (strB x.from_))) := of_eq_true (eq_self _)
@[simp] theorem enC_g2 (x : En) (h : 2 < (enC x).length) : (enC x)[2] = .v (.string (strB x.from_)) := of_eq_true (eq_self _)
@[simp] theorem enC_3 (x : En) : (enC x)[3]? = some (.v (.string (strB x.to))) := of_eq_true (eq_self _)
@[simp] theorem enC_g3 (x : En) (h : 3 < (enC x).length) : (enC x)[3] = .v (.string (strB x.to)) := of_eq_true (eq_self _)
@[simp] theorem enC_4 (x : En) : (enC x)[4]? = some (.sl 3 (enc toC x.good) none .no) := of_eq_true (eq_self _)
@[simp] theorem enC_g4 (x : En) (h : 4 < (enC x).length) : (enC x)[4] = .sl 3 (enc toC x.good) none .no := of_eq_true (eq_self _)
@[simp] theorem enC_5 (x : En) : (enC x)[5]? = some (.sl 3 (enc toC x.bad) none .no) := of_eq_true (eq_self _)
@[simp] theorem enC_g5 (x : En) (h : 5 < (enC x).length) : (enC x)[5] = .sl 3 (enc toC x.bad) none .no := of_eq_true (eq_self _)
@[simp] theorem enC_6 (x : En) : (enC x)[6]? = some (.sl 2 (enc ocC x.cache) none .no) := of_eq_true (eq_self _)
@[simp] theorem enC_g6 (x : En) (h : 6 < (enC x).length) : (enC x)[6] = .sl 2 (enc ocC x.cache) none .no := of_eq_true (eq_self _)
@[simp] theorem enC_7 (x : En) : (enC x)[7]? = some (.sl 1 (bytesE x.reply) none .no) := of_eq_true (eq_self _)
@[simp] theorem enC_g7 (x : En) (h : 7 < (enC x).length) : (enC x)[7] = .sl 1 (bytesE x.reply) none .no := of_eq_true (eq_self _)
/-- api.Verb -/
structure Vb where
  kind : Int
  n : Int
  code : List UInt8
  deriving DecidableEq
def vbC (x : Vb) : List AV := [.v (.int .i64 x.kind), .v (.int .i64 x.n), .v (.string (strB x.code))]
@[simp] theorem vbC_len (x : Vb) : (vbC x).length = 3 := of_eq_true (eq_self _)
@[simp] theorem vbC_unown (x : Vb) : (vbC x).map AV.unown = vbC x := of_eq_true (eq_self _)
@[simp] theorem vbC_take (x : Vb) : List.take 3 (vbC x) = vbC x := of_eq_true (eq_self _)
@[simp] theorem vbC_0 (x : Vb) : (vbC x)[0]? = some (.v (.int .i64 x.kind)) := of_eq_true (eq_self _)
@[simp] theorem vbC_g0 (x : Vb) (h : 0 < (vbC x).length) : (vbC x)[0] = .v (.int .i64 x.kind) := of_eq_true (eq_self _)
@[simp] theorem vbC_1 (x : Vb) : (vbC x)[1]? = some (.v (.int .i64 x.n)) := of_eq_true (eq_self _)
@[simp] theorem vbC_g1 (x : Vb) (h : 1 < (vbC x).length) : (vbC x)[1] = .v (.int .i64 x.n) := of_eq_true (eq_self _)
@[simp] theorem vbC_2 (x : Vb) : (vbC x)[2]? = some (.v (.string (strB x.code))) := of_eq_true (eq_self _)
@[simp] theorem vbC_g2 (x : Vb) (h : 2 < (vbC x).length) : (vbC x)[2] = .v (.string (strB x.code)) := of_eq_true (eq_self _)
/-- api.Config -/
structure Cf where
  servers : Int
  cache : Int
  table : Int
  message : Int
  buffer : Int
  queue : Int
  params : List Pa
  deriving DecidableEq
def cfC (x : Cf) : List AV := [.v (.int .i64 x.servers), .v (.int .i64 x.cache), .v (.int .i64 x.table), .v (.int .i64 x.message), .v (.int .i64 x.buffer), .v (.int .i64 x.queue), .sl 2 (enc paC x.params) none .no]
@[simp] theorem cfC_len (x : Cf) : (cfC x).length = 7 := of_eq_true (eq_self _)
@[simp] theorem cfC_unown (x : Cf) : (cfC x).map AV.unown = cfC x := of_eq_true (eq_self _)
@[simp] theorem cfC_take (x : Cf) : List.take 7 (cfC x) = cfC x := of_eq_true (eq_self _)
@[simp] theorem cfC_0 (x : Cf) : (cfC x)[0]? = some (.v (.int .i64 x.servers)) := of_eq_true (eq_self _)
@[simp] theorem cfC_g0 (x : Cf) (h : 0 < (cfC x).length) : (cfC x)[0] = .v (.int .i64 x.servers) := of_eq_true (eq_self _)
@[simp] theorem cfC_1 (x : Cf) : (cfC x)[1]? = some (.v (.int .i64 x.cache)) := of_eq_true (eq_self _)
@[simp] theorem cfC_g1 (x : Cf) (h : 1 < (cfC x).length) : (cfC x)[1] = .v (.int .i64 x.cache) := of_eq_true (eq_self _)
@[simp] theorem cfC_2 (x : Cf) : (cfC x)[2]? = some (.v (.int .i64 x.table)) := of_eq_true (eq_self _)
@[simp] theorem cfC_g2 (x : Cf) (h : 2 < (cfC x).length) : (cfC x)[2] = .v (.int .i64 x.table) := of_eq_true (eq_self _)
@[simp] theorem cfC_3 (x : Cf) : (cfC x)[3]? = some (.v (.int .i64 x.message)) := of_eq_true (eq_self _)
@[simp] theorem cfC_g3 (x : Cf) (h : 3 < (cfC x).length) : (cfC x)[3] = .v (.int .i64 x.message) := of_eq_true (eq_self _)
@[simp] theorem cfC_4 (x : Cf) : (cfC x)[4]? = some (.v (.int .i64 x.buffer)) := of_eq_true (eq_self _)
@[simp] theorem cfC_g4 (x : Cf) (h : 4 < (cfC x).length) : (cfC x)[4] = .v (.int .i64 x.buffer) := of_eq_true (eq_self _)
@[simp] theorem cfC_5 (x : Cf) : (cfC x)[5]? = some (.v (.int .i64 x.queue)) := of_eq_true (eq_self _)
@[simp] theorem cfC_g5 (x : Cf) (h : 5 < (cfC x).length) : (cfC x)[5] = .v (.int .i64 x.queue) := of_eq_true (eq_self _)
@[simp] theorem cfC_6 (x : Cf) : (cfC x)[6]? = some (.sl 2 (enc paC x.params) none .no) := of_eq_true (eq_self _)
@[simp] theorem cfC_g6 (x : Cf) (h : 6 < (cfC x).length) : (cfC x)[6] = .sl 2 (enc paC x.params) none .no := of_eq_true (eq_self _)
/-- api.Event -/
structure Ev where
  kind : Int
  who : Int
  n : Int
  bytes : List UInt8
  deriving DecidableEq
def evC (x : Ev) : List AV := [.v (.int .i64 x.kind), .v (.int .i64 x.who), .v (.int .i64 x.n), .sl 1 (bytesE x.bytes) none .no]
@[simp] theorem evC_len (x : Ev) : (evC x).length = 4 := of_eq_true (eq_self _)
@[simp] theorem evC_unown (x : Ev) : (evC x).map AV.unown = evC x := of_eq_true (eq_self _)
@[simp] theorem evC_take (x : Ev) : List.take 4 (evC x) = evC x := of_eq_true (eq_self _)
@[simp] theorem evC_0 (x : Ev) : (evC x)[0]? = some (.v (.int .i64 x.kind)) := of_eq_true (eq_self _)
@[simp] theorem evC_g0 (x : Ev) (h : 0 < (evC x).length) : (evC x)[0] = .v (.int .i64 x.kind) := of_eq_true (eq_self _)
@[simp] theorem evC_1 (x : Ev) : (evC x)[1]? = some (.v (.int .i64 x.who)) := of_eq_true (eq_self _)
@[simp] theorem evC_g1 (x : Ev) (h : 1 < (evC x).length) : (evC x)[1] = .v (.int .i64 x.who) := of_eq_true (eq_self _)
@[simp] theorem evC_2 (x : Ev) : (evC x)[2]? = some (.v (.int .i64 x.n)) := of_eq_true (eq_self _)
@[simp] theorem evC_g2 (x : Ev) (h : 2 < (evC x).length) : (evC x)[2] = .v (.int .i64 x.n) := of_eq_true (eq_self _)
@[simp] theorem evC_3 (x : Ev) : (evC x)[3]? = some (.sl 1 (bytesE x.bytes) none .no) := of_eq_true (eq_self _)
@[simp] theorem evC_g3 (x : Ev) (h : 3 < (evC x).length) : (evC x)[3] = .sl 1 (bytesE x.bytes) none .no := of_eq_true (eq_self _)
/-- api.Sent -/
structure Se where
  client : Int
  index : Int
  bytes : List UInt8
  deriving DecidableEq
def seC (x : Se) : List AV := [.v (.int .i64 x.client), .v (.int .i64 x.index), .sl 1 (bytesE x.bytes) none .no]
@[simp] theorem seC_len (x : Se) : (seC x).length = 3 := of_eq_true (eq_self _)
@[simp] theorem seC_unown (x : Se) : (seC x).map AV.unown = seC x := of_eq_true (eq_self _)
@[simp] theorem seC_take (x : Se) : List.take 3 (seC x) = seC x := of_eq_true (eq_self _)
@[simp] theorem seC_0 (x : Se) : (seC x)[0]? = some (.v (.int .i64 x.client)) := of_eq_true (eq_self _)
@[simp] theorem seC_g0 (x : Se) (h : 0 < (seC x).length) : (seC x)[0] = .v (.int .i64 x.client) := of_eq_true (eq_self _)
@[simp] theorem seC_1 (x : Se) : (seC x)[1]? = some (.v (.int .i64 x.index)) := of_eq_true (eq_self _)
@[simp] theorem seC_g1 (x : Se) (h : 1 < (seC x).length) : (seC x)[1] = .v (.int .i64 x.index) := of_eq_true (eq_self _)
@[simp] theorem seC_2 (x : Se) : (seC x)[2]? = some (.sl 1 (bytesE x.bytes) none .no) := of_eq_true (eq_self _)
@[simp] theorem seC_g2 (x : Se) (h : 2 < (seC x).length) : (seC x)[2] = .sl 1 (bytesE x.bytes) none .no := of_eq_true (eq_self _)
/-- api.Call -/
structure Ca where
  client : Int
  index : Int
  deriving DecidableEq
def caC (x : Ca) : List AV := [.v (.int .i64 x.client), .v (.int .i64 x.index)]
@[simp] theorem caC_len (x : Ca) : (caC x).length = 2 := of_eq_true (eq_self _)
@[simp] theorem caC_unown (x : Ca) : (caC x).map AV.unown = caC x := of_eq_true (eq_self _)
@[simp] theorem caC_take (x : Ca) : List.take 2 (caC x) = caC x := of_eq_true (eq_self _)
@[simp] theorem caC_0 (x : Ca) : (caC x)[0]? = some (.v (.int .i64 x.client)) := of_eq_true (eq_self _)
@[simp] theorem caC_g0 (x : Ca) (h : 0 < (caC x).length) : (caC x)[0] = .v (.int .i64 x.client) := of_eq_true (eq_self _)
@[simp] theorem caC_1 (x : Ca) : (caC x)[1]? = some (.v (.int .i64 x.index)) := of_eq_true (eq_self _)
@[simp] theorem caC_g1 (x : Ca) (h : 1 < (caC x).length) : (caC x)[1] = .v (.int .i64 x.index) := of_eq_true (eq_self _)
/-- api.Named -/
structure Na where
  name : List UInt8
  id : Int
  deriving DecidableEq
def naC (x : Na) : List AV := [.v (.string (strB x.name)), .v (.int .i64 x.id)]
@[simp] theorem naC_len (x : Na) : (naC x).length = 2 := of_eq_true (eq_self _)
@[simp] theorem naC_unown (x : Na) : (naC x).map AV.unown = naC x := of_eq_true (eq_self _)
@[simp] theorem naC_take (x : Na) : List.take 2 (naC x) = naC x := of_eq_true (eq_self _)
@[simp] theorem naC_0 (x : Na) : (naC x)[0]? = some (.v (.string (strB x.name))) := of_eq_true (eq_self _)
@[simp] theorem naC_g0 (x : Na) (h : 0 < (naC x).length) : (naC x)[0] = .v (.string (strB x.name)) := of_eq_true (eq_self _)
@[simp] theorem naC_1 (x : Na) : (naC x)[1]? = some (.v (.int .i64 x.id)) := of_eq_true (eq_self _)
@[simp] theorem naC_g1 (x : Na) (h : 1 < (naC x).length) : (naC x)[1] = .v (.int .i64 x.id) := of_eq_true (eq_self _)
/-- api.Counted -/
structure Cn where
  id : Int
  refs : Int
  deriving DecidableEq
def cnC (x : Cn) : List AV := [.v (.int .i64 x.id), .v (.int .i64 x.refs)]
@[simp] theorem cnC_len (x : Cn) : (cnC x).length = 2 := of_eq_true (eq_self _)
@[simp] theorem cnC_unown (x : Cn) : (cnC x).map AV.unown = cnC x := of_eq_true (eq_self _)
@[simp] theorem cnC_take (x : Cn) : List.take 2 (cnC x) = cnC x := of_eq_true (eq_self _)
@[simp] theorem cnC_0 (x : Cn) : (cnC x)[0]? = some (.v (.int .i64 x.id)) := of_eq_true (eq_self _)
@[simp] theorem cnC_g0 (x : Cn) (h : 0 < (cnC x).length) : (cnC x)[0] = .v (.int .i64 x.id) := of_eq_true (eq_self _)
@[simp] theorem cnC_1 (x : Cn) : (cnC x)[1]? = some (.v (.int .i64 x.refs)) := of_eq_true (eq_self _)
@[simp] theorem cnC_g1 (x : Cn) (h : 1 < (cnC x).length) : (cnC x)[1] = .v (.int .i64 x.refs) := of_eq_true (eq_self _)
/-- api.ClientView -/
structure Cv where
  phase : Int
  server : Int
  done : Int
  table : List Na
  deriving DecidableEq
def cvC (x : Cv) : List AV := [.v (.int .i64 x.phase), .v (.int .i64 x.server), .v (.int .i64 x.done), .sl 2 (enc naC x.table) none .no]
@[simp] theorem cvC_len (x : Cv) : (cvC x).length = 4 := of_eq_true (eq_self _)
@[simp] theorem cvC_unown (x : Cv) : (cvC x).map AV.unown = cvC x := of_eq_true (eq_self _)
@[simp] theorem cvC_take (x : Cv) : List.take 4 (cvC x) = cvC x := of_eq_true (eq_self _)
@[simp] theorem cvC_0 (x : Cv) : (cvC x)[0]? = some (.v (.int .i64 x.phase)) := of_eq_true (eq_self _)
@[simp] theorem cvC_g0 (x : Cv) (h : 0 < (cvC x).length) : (cvC x)[0] = .v (.int .i64 x.phase) := of_eq_true (eq_self _)
@[simp] theorem cvC_1 (x : Cv) : (cvC x)[1]? = some (.v (.int .i64 x.server)) := of_eq_true (eq_self _)
@[simp] theorem cvC_g1 (x : Cv) (h : 1 < (cvC x).length) : (cvC x)[1] = .v (.int .i64 x.server) := of_eq_true (eq_self _)
@[simp] theorem cvC_2 (x : Cv) : (cvC x)[2]? = some (.v (.int .i64 x.done)) := of_eq_true (eq_self _)
@[simp] theorem cvC_g2 (x : Cv) (h : 2 < (cvC x).length) : (cvC x)[2] = .v (.int .i64 x.done) := of_eq_true (eq_self _)
@[simp] theorem cvC_3 (x : Cv) : (cvC x)[3]? = some (.sl 2 (enc naC x.table) none .no) := of_eq_true (eq_self _)
@[simp] theorem cvC_g3 (x : Cv) (h : 3 < (cvC x).length) : (cvC x)[3] = .sl 2 (enc naC x.table) none .no := of_eq_true (eq_self _)
/-- api.ServerView -/
structure Sv where
  state : Int
  holder : Int
  queue : Int
  status : Int
  cache : List Int
  pending : List Int
  deriving DecidableEq
def svC (x : Sv) : List AV := [.v (.int .i64 x.state), .v (.int .i64 x.holder), .v (.int .i64 x.queue), .v (.int .u8 x.status), .sl 1 (enc intC x.cache) none .no, .sl 1 (enc intC x.pending) none .no]
@[simp] theorem svC_len (x : Sv) : (svC x).length = 6 := of_eq_true (eq_self _)
@[simp] theorem svC_unown (x : Sv) : (svC x).map AV.unown = svC x := of_eq_true (eq_self _)
@[simp] theorem svC_take (x : Sv) : List.take 6 (svC x) = svC x := of_eq_true (eq_self _)
@[simp] theorem svC_0 (x : Sv) : (svC x)[0]? = some (.v (.int .i64 x.state)) := of_eq_true (eq_self _)
@[simp] theorem svC_g0 (x : Sv) (h : 0 < (svC x).length) : (svC x)[0] = .v (.int .i64 x.state) := of_eq_true (eq_self _)
@[simp] theorem svC_1 (x : Sv) : (svC x)[1]? = some (.v (.int .i64 x.holder)) := of_eq_true (eq_self _)
@[simp] theorem svC_g1 (x : Sv) (h : 1 < (svC x).length) : (svC x)[1] = .v (.int .i64 x.holder) := of_eq_true (eq_self _)
@[simp] theorem svC_2 (x : Sv) : (svC x)[2]? = some (.v (.int .i64 x.queue)) := of_eq_true (eq_self _)
@[simp] theorem svC_g2 (x : Sv) (h : 2 < (svC x).length) : (svC x)[2] = .v (.int .i64 x.queue) := of_eq_true (eq_self _)
@[simp] theorem svC_3 (x : Sv) : (svC x)[3]? = some (.v (.int .u8 x.status)) := of_eq_true (eq_self _)
@[simp] theorem svC_g3 (x : Sv) (h : 3 < (svC x).length) : (svC x)[3] = .v (.int .u8 x.status) := of_eq_true (eq_self _)
@[simp] theorem svC_4 (x : Sv) : (svC x)[4]? = some (.sl 1 (enc intC x.cache) none .no) := of_eq_true (eq_self _)
@[simp] theorem svC_g4 (x : Sv) (h : 4 < (svC x).length) : (svC x)[4] = .sl 1 (enc intC x.cache) none .no := of_eq_true (eq_self _)
@[simp] theorem svC_5 (x : Sv) : (svC x)[5]? = some (.sl 1 (enc intC x.pending) none .no) := of_eq_true (eq_self _)
@[simp] theorem svC_g5 (x : Sv) (h : 5 < (svC x).length) : (svC x)[5] = .sl 1 (enc intC x.pending) none .no := of_eq_true (eq_self _)
/-- api.View -/
structure Vw where
  clients : List Cv
  servers : List Sv
  registry : List Cn
  waiting : List Int
  deriving DecidableEq
def vwC (x : Vw) : List AV := [.sl 4 (enc cvC x.clients) none .no, .sl 6 (enc svC x.servers) none .no, .sl 2 (enc cnC x.registry) none .no, .sl 1 (enc intC x.waiting) none .no]
@[simp] theorem vwC_len (x : Vw) : (vwC x).length = 4 := of_eq_true (eq_self _)
@[simp] theorem vwC_unown (x : Vw) : (vwC x).map AV.unown = vwC x := of_eq_true (eq_self _)
@[simp] theorem vwC_take (x : Vw) : List.take 4 (vwC x) = vwC x := of_eq_true (eq_self _)
@[simp] theorem vwC_0 (x : Vw) : (vwC x)[0]? = some (.sl 4 (enc cvC x.clients) none .no) := of_eq_true (eq_self _)
@[simp] theorem vwC_g0 (x : Vw) (h : 0 < (vwC x).length) : (vwC x)[0] = .sl 4 (enc cvC x.clients) none .no := of_eq_true (eq_self _)
@[simp] theorem vwC_1 (x : Vw) : (vwC x)[1]? = some (.sl 6 (enc svC x.servers) none .no) := of_eq_true (eq_self _)
@[simp] theorem vwC_g1 (x : Vw) (h : 1 < (vwC x).length) : (vwC x)[1] = .sl 6 (enc svC x.servers) none .no := of_eq_true (eq_self _)
@[simp] theorem vwC_2 (x : Vw) : (vwC x)[2]? = some (.sl 2 (enc cnC x.registry) none .no) := of_eq_true (eq_self _)
@[simp] theorem vwC_g2 (x : Vw) (h : 2 < (vwC x).length) : (vwC x)[2] = .sl 2 (enc cnC x.registry) none .no := of_eq_true (eq_self _)
@[simp] theorem vwC_3 (x : Vw) : (vwC x)[3]? = some (.sl 1 (enc intC x.waiting) none .no) := of_eq_true (eq_self _)
@[simp] theorem vwC_g3 (x : Vw) (h : 3 < (vwC x).length) : (vwC x)[3] = .sl 1 (enc intC x.waiting) none .no := of_eq_true (eq_self _)
end Go.Proofs.Ytofkddajlgebjaa.Ax
namespace Go.Proofs.Ytofkddajlgebjaa.Ax
open Go.RowKit Go By
set_option linter.unusedSimpArgs false
set_option linter.unusedVariables false

theorem i64_wf {n : Int} (h : (Lit.int .i64 n).wf = true) : -9223372036854775808 ≤ n ∧ n ≤ 9223372036854775807 := by
  simp [Lit.wf, IntKind.min, IntKind.max, IntKind.signed, IntKind.bits] at h
  omega
theorem sh_int : Shape Try.prog 3 (fun n : Int => [.v (.int .i64 n)]) (fun n => -9223372036854775808 ≤ n ∧ n ≤ 9223372036854775807) := Shape.map (shape_int Try.underlying3) id (fun _ => rfl) (fun _ => i64_wf)
end Go.Proofs.Ytofkddajlgebjaa.Ax
