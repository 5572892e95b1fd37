import Derived.Test.YtknohkmpficjgaaGreatDoorQAxXr
set_option linter.unusedSimpArgs false
set_option linter.unusedVariables false
open List renaming take -> Q7, mem_map -> Q8
namespace Go.Proofs.YtknohkmpficjgaaGreatDoor.Ax
open Go.RowKit Go By
theorem aw {α : Sort _} {a : α} : a = a := of_eq_true (eq_self a)
abbrev Cl := Bool × List UInt8
def aq (c : Cl) : List AV := [.v (.bool c.1), .sl 1 (ak c.2) none .no]
@[simp] theorem Je (x : Cl) : (aq x).length = 2 := aw
@[simp] theorem EF (x : Cl) : (aq x).map AV.unown = aq x := aw
@[simp] theorem Kz (x : Cl) (h : 1 < (aq x).length) : (aq x)[1] = .sl 1 (ak x.2) none .no := aw
theorem ci (x : Cl) : aq x = [.v (.bool x.1), .sl 1 (ak x.2) none .no] := rfl
@[simp] theorem Au (n : Nat) (x : Cl) : cg n (aq x) := by simp [ci]
@[simp] theorem GZ (n : Nat) (l : List Cl) : aR n (al aq l) := di _ n (Au n) l
structure Ms where
 type : Int
 body : List UInt8
 deriving DecidableEq
def vU (x : Ms) : List AV := [.v (.int .u8 x.type), .sl 1 (ak x.body) none .no]
@[simp] theorem MH (x : Ms) : (vU x).length = 2 := aw
@[simp] theorem Jz (x : Ms) : (vU x).map AV.unown = vU x := aw
@[simp] theorem Lb (x : Ms) : Q7 2 (vU x) = vU x := aw
@[simp] theorem PA (x : Ms) (h : 0 < (vU x).length) : (vU x)[0] = .v (.int .u8 x.type) := aw
@[simp] theorem PB (x : Ms) (h : 1 < (vU x).length) : (vU x)[1] = .sl 1 (ak x.body) none .no := aw
theorem iT (x : Ms) : vU x = [.v (.int .u8 x.type), .sl 1 (ak x.body) none .no] := rfl
@[simp] theorem PC (n : Nat) (x : Ms) : cg n (vU x) := by simp [iT]
structure Co where
 name : List UInt8
 table : Int
 attr : Int
 oid : Int
 size : Int
 mod : Int
 format : Int
 deriving DecidableEq
def iE (x : Co) : List AV := [.v (.string (ah x.name)), .v (.int .i64 x.table), .v (.int .i64 x.attr), .v (.int .i64 x.oid), .v (.int .i64 x.size), .v (.int .i64 x.mod), .v (.int .i64 x.format)]
@[simp] theorem Mk (x : Co) : (iE x).length = 7 := aw
@[simp] theorem Ji (x : Co) : (iE x).map AV.unown = iE x := aw
@[simp] theorem KC (x : Co) : Q7 7 (iE x) = iE x := aw
@[simp] theorem NX (x : Co) (h : 0 < (iE x).length) : (iE x)[0] = .v (.string (ah x.name)) := aw
@[simp] theorem NY (x : Co) (h : 1 < (iE x).length) : (iE x)[1] = .v (.int .i64 x.table) := aw
@[simp] theorem NZ (x : Co) (h : 2 < (iE x).length) : (iE x)[2] = .v (.int .i64 x.attr) := aw
@[simp] theorem N0 (x : Co) (h : 3 < (iE x).length) : (iE x)[3] = .v (.int .i64 x.oid) := aw
@[simp] theorem N1 (x : Co) (h : 4 < (iE x).length) : (iE x)[4] = .v (.int .i64 x.size) := aw
@[simp] theorem N2 (x : Co) (h : 5 < (iE x).length) : (iE x)[5] = .v (.int .i64 x.mod) := aw
@[simp] theorem N3 (x : Co) (h : 6 < (iE x).length) : (iE x)[6] = .v (.int .i64 x.format) := aw
theorem vd (x : Co) : iE x = [.v (.string (ah x.name)), .v (.int .i64 x.table), .v (.int .i64 x.attr), .v (.int .i64 x.oid), .v (.int .i64 x.size), .v (.int .i64 x.mod), .v (.int .i64 x.format)] := rfl
@[simp] theorem GA (n : Nat) (x : Co) : cg n (iE x) := by simp [vd]
@[simp] theorem K7 (n : Nat) (l : List Co) : aR n (al iE l) := di _ n (GA n) l
structure Fi where
 code : Int
 text : List UInt8
 deriving DecidableEq
def pL (x : Fi) : List AV := [.v (.int .u8 x.code), .v (.string (ah x.text))]
@[simp] theorem Mp (x : Fi) : (pL x).length = 2 := aw
@[simp] theorem Jl (x : Fi) : (pL x).map AV.unown = pL x := aw
@[simp] theorem KG (x : Fi) : Q7 2 (pL x) = pL x := aw
@[simp] theorem N4 (x : Fi) (h : 0 < (pL x).length) : (pL x)[0] = .v (.int .u8 x.code) := aw
@[simp] theorem N5 (x : Fi) (h : 1 < (pL x).length) : (pL x)[1] = .v (.string (ah x.text)) := aw
theorem vA (x : Fi) : pL x = [.v (.int .u8 x.code), .v (.string (ah x.text))] := rfl
@[simp] theorem GI (n : Nat) (x : Fi) : cg n (pL x) := by simp [vA]
@[simp] theorem K8 (n : Nat) (l : List Fi) : aR n (al pL l) := di _ n (GI n) l
structure Fm where
 kind : Int
 what : Int
 name : List UInt8
 portal : List UInt8
 text : List UInt8
 oids : List Int
 formats : List Int
 results : List Int
 params : List Cl
 max : Int
 deriving DecidableEq
def aG (x : Fm) : List AV := [.v (.int .u8 x.kind), .v (.int .u8 x.what), .v (.string (ah x.name)), .v (.string (ah x.portal)), .v (.string (ah x.text)), .sl 1 (al aN x.oids) none .no, .sl 1 (al aN x.formats) none .no, .sl 1 (al aN x.results) none .no, .sl 2 (al aq x.params) none .no, .v (.int .i64 x.max)]
@[simp] theorem Mt (x : Fm) : (aG x).length = 10 := aw
@[simp] theorem Jn (x : Fm) : (aG x).map AV.unown = aG x := aw
@[simp] theorem KL (x : Fm) : Q7 10 (aG x) = aG x := aw
@[simp] theorem N6 (x : Fm) (h : 0 < (aG x).length) : (aG x)[0] = .v (.int .u8 x.kind) := aw
@[simp] theorem N7 (x : Fm) (h : 1 < (aG x).length) : (aG x)[1] = .v (.int .u8 x.what) := aw
@[simp] theorem N8 (x : Fm) (h : 2 < (aG x).length) : (aG x)[2] = .v (.string (ah x.name)) := aw
@[simp] theorem N9 (x : Fm) (h : 3 < (aG x).length) : (aG x)[3] = .v (.string (ah x.portal)) := aw
@[simp] theorem Oa (x : Fm) (h : 4 < (aG x).length) : (aG x)[4] = .v (.string (ah x.text)) := aw
@[simp] theorem Ob (x : Fm) (h : 5 < (aG x).length) : (aG x)[5] = .sl 1 (al aN x.oids) none .no := aw
@[simp] theorem Oc (x : Fm) (h : 6 < (aG x).length) : (aG x)[6] = .sl 1 (al aN x.formats) none .no := aw
@[simp] theorem Od (x : Fm) (h : 7 < (aG x).length) : (aG x)[7] = .sl 1 (al aN x.results) none .no := aw
@[simp] theorem Oe (x : Fm) (h : 8 < (aG x).length) : (aG x)[8] = .sl 2 (al aq x.params) none .no := aw
@[simp] theorem Of (x : Fm) (h : 9 < (aG x).length) : (aG x)[9] = .v (.int .i64 x.max) := aw
theorem aF (x : Fm) : aG x = [.v (.int .u8 x.kind), .v (.int .u8 x.what), .v (.string (ah x.name)), .v (.string (ah x.portal)), .v (.string (ah x.text)), .sl 1 (al aN x.oids) none .no, .sl 1 (al aN x.formats) none .no, .sl 1 (al aN x.results) none .no, .sl 2 (al aq x.params) none .no, .v (.int .i64 x.max)] := rfl
@[simp] theorem GK (n : Nat) (x : Fm) : cg n (aG x) := by simp [aF]
@[simp] theorem K9 (n : Nat) (l : List Fm) : aR n (al aG l) := di _ n (GK n) l
structure Bk where
 kind : Int
 status : Int
 tag : List UInt8
 name : List UInt8
 value : List UInt8
 n : Int
 m : Int
 oids : List Int
 cols : List Co
 row : List Cl
 fields : List Fi
 deriving DecidableEq
def aU (x : Bk) : List AV := [.v (.int .u8 x.kind), .v (.int .u8 x.status), .v (.string (ah x.tag)), .v (.string (ah x.name)), .v (.string (ah x.value)), .v (.int .i64 x.n), .v (.int .i64 x.m), .sl 1 (al aN x.oids) none .no, .sl 7 (al iE x.cols) none .no, .sl 2 (al aq x.row) none .no, .sl 2 (al pL x.fields) none .no]
@[simp] theorem L8 (x : Bk) : (aU x).length = 11 := aw
@[simp] theorem Jb (x : Bk) : (aU x).map AV.unown = aU x := aw
@[simp] theorem Kt (x : Bk) : Q7 11 (aU x) = aU x := aw
@[simp] theorem M6 (x : Bk) (h : 0 < (aU x).length) : (aU x)[0] = .v (.int .u8 x.kind) := aw
@[simp] theorem M7 (x : Bk) (h : 1 < (aU x).length) : (aU x)[1] = .v (.int .u8 x.status) := aw
@[simp] theorem M8 (x : Bk) (h : 2 < (aU x).length) : (aU x)[2] = .v (.string (ah x.tag)) := aw
@[simp] theorem M9 (x : Bk) (h : 3 < (aU x).length) : (aU x)[3] = .v (.string (ah x.name)) := aw
@[simp] theorem Na (x : Bk) (h : 4 < (aU x).length) : (aU x)[4] = .v (.string (ah x.value)) := aw
@[simp] theorem Nb (x : Bk) (h : 5 < (aU x).length) : (aU x)[5] = .v (.int .i64 x.n) := aw
@[simp] theorem Nc (x : Bk) (h : 6 < (aU x).length) : (aU x)[6] = .v (.int .i64 x.m) := aw
@[simp] theorem Nd (x : Bk) (h : 7 < (aU x).length) : (aU x)[7] = .sl 1 (al aN x.oids) none .no := aw
@[simp] theorem Nf (x : Bk) (h : 8 < (aU x).length) : (aU x)[8] = .sl 7 (al iE x.cols) none .no := aw
@[simp] theorem Ng (x : Bk) (h : 9 < (aU x).length) : (aU x)[9] = .sl 2 (al aq x.row) none .no := aw
@[simp] theorem L7 (x : Bk) (h : 10 < (aU x).length) : (aU x)[10] = .sl 2 (al pL x.fields) none .no := aw
theorem aB (x : Bk) : aU x = [.v (.int .u8 x.kind), .v (.int .u8 x.status), .v (.string (ah x.tag)), .v (.string (ah x.name)), .v (.string (ah x.value)), .v (.int .i64 x.n), .v (.int .i64 x.m), .sl 1 (al aN x.oids) none .no, .sl 7 (al iE x.cols) none .no, .sl 2 (al aq x.row) none .no, .sl 2 (al pL x.fields) none .no] := rfl
@[simp] theorem FO (n : Nat) (x : Bk) : cg n (aU x) := by simp [aB]
@[simp] theorem K6 (n : Nat) (l : List Bk) : aR n (al aU l) := di _ n (FO n) l
structure Vb where
 kind : Int
 n : Int
 code : List UInt8
 deriving DecidableEq
def ea (x : Vb) : List AV := [.v (.int .i64 x.kind), .v (.int .i64 x.n), .v (.string (ah x.code))]
@[simp] theorem MT (x : Vb) : (ea x).length = 3 := aw
@[simp] theorem JS (x : Vb) : (ea x).map AV.unown = ea x := aw
@[simp] theorem LF (x : Vb) : Q7 3 (ea x) = ea x := aw
@[simp] theorem PH (x : Vb) (h : 0 < (ea x).length) : (ea x)[0] = .v (.int .i64 x.kind) := aw
@[simp] theorem PI (x : Vb) (h : 1 < (ea x).length) : (ea x)[1] = .v (.int .i64 x.n) := aw
@[simp] theorem PJ (x : Vb) (h : 2 < (ea x).length) : (ea x)[2] = .v (.string (ah x.code)) := aw
theorem fq (x : Vb) : ea x = [.v (.int .i64 x.kind), .v (.int .i64 x.n), .v (.string (ah x.code))] := rfl
@[simp] theorem PK (n : Nat) (x : Vb) : cg n (ea x) := by simp [fq]
def bl (r : List Cl) : List AV := [.sl 2 (al aq r) none .no]
theorem lk (r : List Cl) : bl r = [.sl 2 (al aq r) none .no] := rfl
@[simp] theorem BG (n : Nat) (r : List Cl) : cg n (bl r) := ⟨sf fun e he => by
 unfold al at he
 obtain ⟨x, _, rfl⟩ := Q8.1 he
 exact ⟨trivial, fc n _, trivial⟩, trivial⟩
@[simp] theorem HT (n : Nat) (l : List (List Cl)) : aR n (al bl l) := sf fun e he => by
 unfold al at he
 obtain ⟨x, _, rfl⟩ := Q8.1 he
 exact BG n x
end Go.Proofs.YtknohkmpficjgaaGreatDoor.Ax
