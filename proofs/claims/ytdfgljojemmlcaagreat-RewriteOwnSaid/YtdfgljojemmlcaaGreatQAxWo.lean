import Derived.Test.YtdfgljojemmlcaaGreatQAxXr
import Derived.Test.YtdfgljojemmlcaaGreatQAxSc
import Derived.Test.YtdfgljojemmlcaaGreatQCodeW
import Derived.Test.YtdfgljojemmlcaaGreatQHelA
set_option linter.unusedSimpArgs false
set_option linter.unusedVariables false
set_option linter.ambiguousOpen false
namespace Go.Proofs.YtdfgljojemmlcaaGreat.Ax
open Go.RowKit Go By
abbrev Cl := Bool × List UInt8
def cellC (c : Cl) : List AV := [.v (.bool c.1), .sl 1 (bytesE c.2) none .no]
@[simp] theorem cellC_len (x : Cl) : (cellC x).length = 2 := of_eq_true (eq_self _)
@[simp] theorem cellC_unown (x : Cl) : (cellC x).map AV.unown = cellC x := of_eq_true (eq_self _)
@[simp] theorem cellC_take (x : Cl) : List.take 2 (cellC x) = cellC x := of_eq_true (eq_self _)
@[simp] theorem cellC_g1 (x : Cl) (h : 1 < (cellC x).length) : (cellC x)[1] = .sl 1 (bytesE x.2) none .no := of_eq_true (eq_self _)
theorem cellC_mk (x : Cl) : cellC x = [.v (.bool x.1), .sl 1 (bytesE x.2) none .no] := rfl
@[simp] theorem cellC_lt (n : Nat) (x : Cl) : ltL n (cellC x) := by simp [cellC_mk]
@[simp] theorem ltLL_cellC (n : Nat) (l : List Cl) : ltLL n (enc cellC l) := ltLL_enc _ n (cellC_lt n) l
structure Ms where
 type : Int
 body : List UInt8
 deriving DecidableEq
def msC (x : Ms) : List AV := [.v (.int .u8 x.type), .sl 1 (bytesE x.body) none .no]
@[simp] theorem msC_len (x : Ms) : (msC x).length = 2 := of_eq_true (eq_self _)
@[simp] theorem msC_unown (x : Ms) : (msC x).map AV.unown = msC x := of_eq_true (eq_self _)
@[simp] theorem msC_g0 (x : Ms) (h : 0 < (msC x).length) : (msC x)[0] = .v (.int .u8 x.type) := of_eq_true (eq_self _)
@[simp] theorem msC_g1 (x : Ms) (h : 1 < (msC x).length) : (msC x)[1] = .sl 1 (bytesE x.body) none .no := of_eq_true (eq_self _)
theorem msC_mk (x : Ms) : msC x = [.v (.int .u8 x.type), .sl 1 (bytesE x.body) none .no] := rfl
structure Co where
 name : List UInt8
 table : Int
 attr : Int
 oid : Int
 size : Int
 mod : Int
 format : Int
 deriving DecidableEq
def coC (x : Co) : List AV := [.v (.string (strB x.name)), .v (.int .i64 x.table), .v (.int .i64 x.attr), .v (.int .i64 x.oid), .v (.int .i64 x.size), .v (.int .i64 x.mod), .v (.int .i64 x.format)]
@[simp] theorem coC_len (x : Co) : (coC x).length = 7 := of_eq_true (eq_self _)
@[simp] theorem coC_unown (x : Co) : (coC x).map AV.unown = coC x := of_eq_true (eq_self _)
@[simp] theorem coC_take (x : Co) : List.take 7 (coC x) = coC x := of_eq_true (eq_self _)
@[simp] theorem coC_g0 (x : Co) (h : 0 < (coC x).length) : (coC x)[0] = .v (.string (strB x.name)) := of_eq_true (eq_self _)
@[simp] theorem coC_g1 (x : Co) (h : 1 < (coC x).length) : (coC x)[1] = .v (.int .i64 x.table) := of_eq_true (eq_self _)
@[simp] theorem coC_g2 (x : Co) (h : 2 < (coC x).length) : (coC x)[2] = .v (.int .i64 x.attr) := of_eq_true (eq_self _)
@[simp] theorem coC_g3 (x : Co) (h : 3 < (coC x).length) : (coC x)[3] = .v (.int .i64 x.oid) := of_eq_true (eq_self _)
@[simp] theorem coC_g4 (x : Co) (h : 4 < (coC x).length) : (coC x)[4] = .v (.int .i64 x.size) := of_eq_true (eq_self _)
@[simp] theorem coC_g5 (x : Co) (h : 5 < (coC x).length) : (coC x)[5] = .v (.int .i64 x.mod) := of_eq_true (eq_self _)
@[simp] theorem coC_g6 (x : Co) (h : 6 < (coC x).length) : (coC x)[6] = .v (.int .i64 x.format) := of_eq_true (eq_self _)
theorem coC_mk (x : Co) : coC x = [.v (.string (strB x.name)), .v (.int .i64 x.table), .v (.int .i64 x.attr), .v (.int .i64 x.oid), .v (.int .i64 x.size), .v (.int .i64 x.mod), .v (.int .i64 x.format)] := rfl
@[simp] theorem coC_lt (n : Nat) (x : Co) : ltL n (coC x) := by simp [coC_mk]
@[simp] theorem ltLL_coC (n : Nat) (l : List Co) : ltLL n (enc coC l) := ltLL_enc _ n (coC_lt n) l
structure Fi where
 code : Int
 text : List UInt8
 deriving DecidableEq
def fiC (x : Fi) : List AV := [.v (.int .u8 x.code), .v (.string (strB x.text))]
@[simp] theorem fiC_len (x : Fi) : (fiC x).length = 2 := of_eq_true (eq_self _)
@[simp] theorem fiC_unown (x : Fi) : (fiC x).map AV.unown = fiC x := of_eq_true (eq_self _)
@[simp] theorem fiC_take (x : Fi) : List.take 2 (fiC x) = fiC x := of_eq_true (eq_self _)
@[simp] theorem fiC_g0 (x : Fi) (h : 0 < (fiC x).length) : (fiC x)[0] = .v (.int .u8 x.code) := of_eq_true (eq_self _)
@[simp] theorem fiC_g1 (x : Fi) (h : 1 < (fiC x).length) : (fiC x)[1] = .v (.string (strB x.text)) := of_eq_true (eq_self _)
theorem fiC_mk (x : Fi) : fiC x = [.v (.int .u8 x.code), .v (.string (strB x.text))] := rfl
@[simp] theorem fiC_lt (n : Nat) (x : Fi) : ltL n (fiC x) := by simp [fiC_mk]
@[simp] theorem ltLL_fiC (n : Nat) (l : List Fi) : ltLL n (enc fiC l) := ltLL_enc _ n (fiC_lt n) l
structure Sm where
 text : List UInt8
 oids : List Int
 deriving DecidableEq
def smC (x : Sm) : List AV := [.v (.string (strB x.text)), .sl 1 (enc intC x.oids) none .no]
@[simp] theorem smC_len (x : Sm) : (smC x).length = 2 := of_eq_true (eq_self _)
@[simp] theorem smC_unown (x : Sm) : (smC x).map AV.unown = smC x := of_eq_true (eq_self _)
@[simp] theorem smC_take (x : Sm) : List.take 2 (smC x) = smC x := of_eq_true (eq_self _)
@[simp] theorem smC_g0 (x : Sm) (h : 0 < (smC x).length) : (smC x)[0] = .v (.string (strB x.text)) := of_eq_true (eq_self _)
@[simp] theorem smC_g1 (x : Sm) (h : 1 < (smC x).length) : (smC x)[1] = .sl 1 (enc intC x.oids) none .no := of_eq_true (eq_self _)
theorem smC_mk (x : Sm) : smC x = [.v (.string (strB x.text)), .sl 1 (enc intC x.oids) none .no] := rfl
@[simp] theorem smC_lt (n : Nat) (x : Sm) : ltL n (smC x) := by simp [smC_mk]
@[simp] theorem ltLL_smC (n : Nat) (l : List Sm) : ltLL n (enc smC l) := ltLL_enc _ n (smC_lt n) l
structure Fm where
 kind : Int
 what : Int
 name : List UInt8
 portal : List UInt8
 text : List UInt8
 oids : List Int
 formats : List Int
 results : List Int
 params : List Cl
 max : Int
 deriving DecidableEq
def fmC (x : Fm) : List AV := [.v (.int .u8 x.kind), .v (.int .u8 x.what), .v (.string (strB x.name)), .v (.string (strB x.portal)), .v (.string (strB x.text)), .sl 1 (enc intC x.oids) none .no, .sl 1 (enc intC x.formats) none .no, .sl 1 (enc intC x.results) none .no, .sl 2 (enc cellC x.params) none .no, .v (.int .i64 x.max)]
@[simp] theorem fmC_len (x : Fm) : (fmC x).length = 10 := of_eq_true (eq_self _)
@[simp] theorem fmC_unown (x : Fm) : (fmC x).map AV.unown = fmC x := of_eq_true (eq_self _)
@[simp] theorem fmC_take (x : Fm) : List.take 10 (fmC x) = fmC x := of_eq_true (eq_self _)
@[simp] theorem fmC_g0 (x : Fm) (h : 0 < (fmC x).length) : (fmC x)[0] = .v (.int .u8 x.kind) := of_eq_true (eq_self _)
@[simp] theorem fmC_g1 (x : Fm) (h : 1 < (fmC x).length) : (fmC x)[1] = .v (.int .u8 x.what) := of_eq_true (eq_self _)
@[simp] theorem fmC_g2 (x : Fm) (h : 2 < (fmC x).length) : (fmC x)[2] = .v (.string (strB x.name)) := of_eq_true (eq_self _)
@[simp] theorem fmC_g3 (x : Fm) (h : 3 < (fmC x).length) : (fmC x)[3] = .v (.string (strB x.portal)) := of_eq_true (eq_self _)
@[simp] theorem fmC_g4 (x : Fm) (h : 4 < (fmC x).length) : (fmC x)[4] = .v (.string (strB x.text)) := of_eq_true (eq_self _)
@[simp] theorem fmC_g5 (x : Fm) (h : 5 < (fmC x).length) : (fmC x)[5] = .sl 1 (enc intC x.oids) none .no := of_eq_true (eq_self _)
@[simp] theorem fmC_g6 (x : Fm) (h : 6 < (fmC x).length) : (fmC x)[6] = .sl 1 (enc intC x.formats) none .no := of_eq_true (eq_self _)
@[simp] theorem fmC_g7 (x : Fm) (h : 7 < (fmC x).length) : (fmC x)[7] = .sl 1 (enc intC x.results) none .no := of_eq_true (eq_self _)
@[simp] theorem fmC_g8 (x : Fm) (h : 8 < (fmC x).length) : (fmC x)[8] = .sl 2 (enc cellC x.params) none .no := of_eq_true (eq_self _)
theorem fmC_mk (x : Fm) : fmC x = [.v (.int .u8 x.kind), .v (.int .u8 x.what), .v (.string (strB x.name)), .v (.string (strB x.portal)), .v (.string (strB x.text)), .sl 1 (enc intC x.oids) none .no, .sl 1 (enc intC x.formats) none .no, .sl 1 (enc intC x.results) none .no, .sl 2 (enc cellC x.params) none .no, .v (.int .i64 x.max)] := rfl
@[simp] theorem fmC_lt (n : Nat) (x : Fm) : ltL n (fmC x) := by simp [fmC_mk]
@[simp] theorem ltLL_fmC (n : Nat) (l : List Fm) : ltLL n (enc fmC l) := ltLL_enc _ n (fmC_lt n) l
structure Bk where
 kind : Int
 status : Int
 tag : List UInt8
 name : List UInt8
 value : List UInt8
 n : Int
 m : Int
 oids : List Int
 cols : List Co
 row : List Cl
 fields : List Fi
 deriving DecidableEq
def bkC (x : Bk) : List AV := [.v (.int .u8 x.kind), .v (.int .u8 x.status), .v (.string (strB x.tag)), .v (.string (strB x.name)), .v (.string (strB x.value)), .v (.int .i64 x.n), .v (.int .i64 x.m), .sl 1 (enc intC x.oids) none .no, .sl 7 (enc coC x.cols) none .no, .sl 2 (enc cellC x.row) none .no, .sl 2 (enc fiC x.fields) none .no]
@[simp] theorem bkC_len (x : Bk) : (bkC x).length = 11 := of_eq_true (eq_self _)
@[simp] theorem bkC_unown (x : Bk) : (bkC x).map AV.unown = bkC x := of_eq_true (eq_self _)
@[simp] theorem bkC_take (x : Bk) : List.take 11 (bkC x) = bkC x := of_eq_true (eq_self _)
@[simp] theorem bkC_g0 (x : Bk) (h : 0 < (bkC x).length) : (bkC x)[0] = .v (.int .u8 x.kind) := of_eq_true (eq_self _)
@[simp] theorem bkC_g1 (x : Bk) (h : 1 < (bkC x).length) : (bkC x)[1] = .v (.int .u8 x.status) := of_eq_true (eq_self _)
@[simp] theorem bkC_g2 (x : Bk) (h : 2 < (bkC x).length) : (bkC x)[2] = .v (.string (strB x.tag)) := of_eq_true (eq_self _)
@[simp] theorem bkC_g3 (x : Bk) (h : 3 < (bkC x).length) : (bkC x)[3] = .v (.string (strB x.name)) := of_eq_true (eq_self _)
@[simp] theorem bkC_g4 (x : Bk) (h : 4 < (bkC x).length) : (bkC x)[4] = .v (.string (strB x.value)) := of_eq_true (eq_self _)
@[simp] theorem bkC_g5 (x : Bk) (h : 5 < (bkC x).length) : (bkC x)[5] = .v (.int .i64 x.n) := of_eq_true (eq_self _)
@[simp] theorem bkC_g6 (x : Bk) (h : 6 < (bkC x).length) : (bkC x)[6] = .v (.int .i64 x.m) := of_eq_true (eq_self _)
@[simp] theorem bkC_g7 (x : Bk) (h : 7 < (bkC x).length) : (bkC x)[7] = .sl 1 (enc intC x.oids) none .no := of_eq_true (eq_self _)
@[simp] theorem bkC_g8 (x : Bk) (h : 8 < (bkC x).length) : (bkC x)[8] = .sl 7 (enc coC x.cols) none .no := of_eq_true (eq_self _)
@[simp] theorem bkC_g9 (x : Bk) (h : 9 < (bkC x).length) : (bkC x)[9] = .sl 2 (enc cellC x.row) none .no := of_eq_true (eq_self _)
@[simp] theorem bkC_g10 (x : Bk) (h : 10 < (bkC x).length) : (bkC x)[10] = .sl 2 (enc fiC x.fields) none .no := of_eq_true (eq_self _)
theorem bkC_mk (x : Bk) : bkC x = [.v (.int .u8 x.kind), .v (.int .u8 x.status), .v (.string (strB x.tag)), .v (.string (strB x.name)), .v (.string (strB x.value)), .v (.int .i64 x.n), .v (.int .i64 x.m), .sl 1 (enc intC x.oids) none .no, .sl 7 (enc coC x.cols) none .no, .sl 2 (enc cellC x.row) none .no, .sl 2 (enc fiC x.fields) none .no] := rfl
@[simp] theorem bkC_lt (n : Nat) (x : Bk) : ltL n (bkC x) := by simp [bkC_mk]
@[simp] theorem ltLL_bkC (n : Nat) (l : List Bk) : ltLL n (enc bkC l) := ltLL_enc _ n (bkC_lt n) l
structure To where
 set : Bool
 name : List UInt8
 id : Int
 deriving DecidableEq
def toC (x : To) : List AV := [.v (.bool x.set), .v (.string (strB x.name)), .v (.int .i64 x.id)]
@[simp] theorem toC_len (x : To) : (toC x).length = 3 := of_eq_true (eq_self _)
@[simp] theorem toC_unown (x : To) : (toC x).map AV.unown = toC x := of_eq_true (eq_self _)
@[simp] theorem toC_take (x : To) : List.take 3 (toC x) = toC x := of_eq_true (eq_self _)
theorem toC_mk (x : To) : toC x = [.v (.bool x.set), .v (.string (strB x.name)), .v (.int .i64 x.id)] := rfl
@[simp] theorem toC_lt (n : Nat) (x : To) : ltL n (toC x) := by simp [toC_mk]
@[simp] theorem ltLL_toC (n : Nat) (l : List To) : ltLL n (enc toC l) := ltLL_enc _ n (toC_lt n) l
structure Oc where
 kind : Int
 id : Int
 deriving DecidableEq
def ocC (x : Oc) : List AV := [.v (.int .i64 x.kind), .v (.int .i64 x.id)]
@[simp] theorem ocC_len (x : Oc) : (ocC x).length = 2 := of_eq_true (eq_self _)
@[simp] theorem ocC_unown (x : Oc) : (ocC x).map AV.unown = ocC x := of_eq_true (eq_self _)
@[simp] theorem ocC_g0 (x : Oc) (h : 0 < (ocC x).length) : (ocC x)[0] = .v (.int .i64 x.kind) := of_eq_true (eq_self _)
@[simp] theorem ocC_g1 (x : Oc) (h : 1 < (ocC x).length) : (ocC x)[1] = .v (.int .i64 x.id) := of_eq_true (eq_self _)
theorem ocC_mk (x : Oc) : ocC x = [.v (.int .i64 x.kind), .v (.int .i64 x.id)] := rfl
@[simp] theorem ocC_lt (n : Nat) (x : Oc) : ltL n (ocC x) := by simp [ocC_mk]
@[simp] theorem ltLL_ocC (n : Nat) (l : List Oc) : ltLL n (enc ocC l) := ltLL_enc _ n (ocC_lt n) l
structure En where
 kind : Int
 hide : Bool
 from_ : List UInt8
 to : List UInt8
 good : List To
 bad : List To
 cache : List Oc
 reply : List UInt8
 deriving DecidableEq
def enC (x : En) : List AV := [.v (.int .i64 x.kind), .v (.bool x.hide), .v (.string (strB x.from_)), .v (.string (strB x.to)), .sl 3 (enc toC x.good) none .no, .sl 3 (enc toC x.bad) none .no, .sl 2 (enc ocC x.cache) none .no, .sl 1 (bytesE x.reply) none .no]
@[simp] theorem enC_len (x : En) : (enC x).length = 8 := of_eq_true (eq_self _)
@[simp] theorem enC_unown (x : En) : (enC x).map AV.unown = enC x := of_eq_true (eq_self _)
@[simp] theorem enC_take (x : En) : List.take 8 (enC x) = enC x := of_eq_true (eq_self _)
@[simp] theorem enC_g0 (x : En) (h : 0 < (enC x).length) : (enC x)[0] = .v (.int .i64 x.kind) := of_eq_true (eq_self _)
@[simp] theorem enC_g1 (x : En) (h : 1 < (enC x).length) : (enC x)[1] = .v (.bool x.hide) := of_eq_true (eq_self _)
@[simp] theorem enC_g2 (x : En) (h : 2 < (enC x).length) : (enC x)[2] = .v (.string (strB x.from_)) := of_eq_true (eq_self _)
@[simp] theorem enC_g4 (x : En) (h : 4 < (enC x).length) : (enC x)[4] = .sl 3 (enc toC x.good) none .no := of_eq_true (eq_self _)
@[simp] theorem enC_g6 (x : En) (h : 6 < (enC x).length) : (enC x)[6] = .sl 2 (enc ocC x.cache) none .no := of_eq_true (eq_self _)
theorem enC_mk (x : En) : enC x = [.v (.int .i64 x.kind), .v (.bool x.hide), .v (.string (strB x.from_)), .v (.string (strB x.to)), .sl 3 (enc toC x.good) none .no, .sl 3 (enc toC x.bad) none .no, .sl 2 (enc ocC x.cache) none .no, .sl 1 (bytesE x.reply) none .no] := rfl
@[simp] theorem enC_lt (n : Nat) (x : En) : ltL n (enC x) := by simp [enC_mk]
@[simp] theorem ltLL_enC (n : Nat) (l : List En) : ltLL n (enc enC l) := ltLL_enc _ n (enC_lt n) l
end Go.Proofs.YtdfgljojemmlcaaGreat.Ax
namespace Go.Proofs.YtdfgljojemmlcaaGreat.Ax
open Go.RowKit Go By Nm Sc Dg
set_option maxRecDepth 10000
theorem equal_c (xs ys : List UInt8) (h : List (List AV)) : Contract Tryz.prog 185 [.sl 1 (bytesE xs) none .no, .sl 1 (bytesE ys) none .no] h (.v (.bool (xs == ys))) h [] := by
 refine contract_of k185 mixed (by simp [c185]) fun hh hargs => ?_
 simp [c185, hh]
theorem wclean1_c (s : List UInt8) (h : List (List AV)) : Contract Tryz.prog 164 [.v (.string (strB s))] h (.v (.bool (!cleanB s))) h [] := by
 refine contract_of k164 mixed (by simp [c164]) fun hh hargs => ?_
 simp [c164]
 refine xcall_self (by simp) (clean_c s h) ?_
 simp [hh]
theorem wclean_c (l : List (List UInt8)) (hl : l.length <= 140737488355328) (h : List (List AV)) : Contract Tryz.prog 143 [.sl 1 (enc strC l) none .no] h (.v (.bool (l.all cleanB))) h [] := by
 refine contract_of k143 mixed (by simp [c143]) fun hh hargs => ?_
 simp [c143]
 refine xcall_self (by simp) (contains1_any mixed k163 k181 (fun s => .v (.string (strB s))) (fun s => !cleanB s) l [] h (by simp) (by simp) (by simp) (fun s _ => wclean1_c s h) hl) ?_
 simp [hh, List.not_any_eq_all_not]
def unsB (size n : Int) : Bool := !decide (n < 0) && rightB n size
theorem wuns1_c (size n : Int) (i : Nat) (h : List (List AV)) (hi : h[i]? = some [.v (.int .i64 size)]) : Contract Tryz.prog 166 [.v (.int .i64 n), .box i 0] h (.v (.bool (!unsB size n))) h [] := by
 refine contract_of k166 mixed (by simp [c166]) fun hh hargs => ?_
 by_cases hn : n < 0
 ·simp [c166, hn, hh, unsB]
 ·simp [c166, hn, hi]
  refine xcall_self (by simp) (right_c n size h) ?_
  simp [hh, unsB, hn]
theorem wuns_c (size : Int) (l : List Int) (hl : l.length <= 140737488355328) (h : List (List AV)) : Contract Tryz.prog 144 [.v (.int .i64 size), .sl 1 (enc intC l) none .no] h (.v (.bool (l.all (unsB size)))) h [] := by
 refine contract_of k144 mixed (by simp [c144]) fun hh hargs => ?_
 simp [c144]
 refine xcall_self (by simp) (contains1_any mixed k112 k134 (fun n => .v (.int .i64 n)) (fun n => !unsB size n) l [.box h.length 0] _ (by simp) (by simp) (by simp) (fun n _ => wuns1_c size n _ _ (by simp)) hl) ?_
 simp [hh, List.not_any_eq_all_not]
def sgnB (size n : Int) : Bool := rightB n size && signedI n size == n
theorem wsgn1_c (size n : Int) (i : Nat) (h : List (List AV)) (hi : h[i]? = some [.v (.int .i64 size)]) : Contract Tryz.prog 186 [.v (.int .i64 n), .box i 0] h (.v (.bool (!sgnB size n))) h [] := by
 refine contract_of k186 mixed (by simp [c186]) fun hh hargs => ?_
 simp [c186, hi]
 refine xcall_self (by simp) (right_c n size h) ?_
 cases hr : rightB n size with
 | false => simp [hh, sgnB, hr]
 | true =>
  simp [hi]
  refine xcall_self (by simp) (signed_c n size h) ?_
  simp [hh, sgnB, hr]
  rfl
theorem wsgn_c (size : Int) (l : List Int) (hl : l.length <= 140737488355328) (h : List (List AV)) : Contract Tryz.prog 179 [.v (.int .i64 size), .sl 1 (enc intC l) none .no] h (.v (.bool (l.all (sgnB size)))) h [] := by
 refine contract_of k179 mixed (by simp [c179]) fun hh hargs => ?_
 simp [c179]
 refine xcall_self (by simp) (contains1_any mixed k112 k134 (fun n => .v (.int .i64 n)) (fun n => !sgnB size n) l [.box h.length 0] _ (by simp) (by simp) (by simp) (fun n _ => wsgn1_c size n _ _ (by simp)) hl) ?_
 simp [hh, List.not_any_eq_all_not]
def cellB (c : Cl) : Bool := decide (c.2.length <= 1048576) && !(c.1 && decide (0 < c.2.length))
theorem wcell1_c (c : Cl) (hc : c.2.length <= 140737488355328) (h : List (List AV)) : Contract Tryz.prog 177 [.agg (cellC c)] h (.v (.bool (!cellB c))) h [] := by
 refine contract_of k177 mixed (by simp [c177]) fun hh hargs => ?_
 obtain ⟨n, b⟩ := c
 by_cases hb : (1048576 : Int) < b.length
 ·have hb' : ¬ b.length <= 1048576 := by omega
  simp [c177, cellC, hb, hb', hh, cellB]
 ·have hb' : b.length <= 1048576 := by omega
  cases n with
  | false => simp [c177, cellC, hb, hb', hh, cellB]
  | true =>
   simp [c177, cellC, hb, hb', hh, cellB]
theorem wcells_c (l : List Cl) (hl : l.length <= 140737488355328) (hc : ∀ c ∈ l, c.2.length <= 140737488355328) (h : List (List AV)) : Contract Tryz.prog 156 [.sl 2 (enc cellC l) none .no] h (.v (.bool (l.all cellB))) h [] := by
 refine contract_of k156 mixed (by simp [c156]) fun hh hargs => ?_
 simp [c156]
 refine xcall_self (by simp) (containsN_any mixed k44 k82 cellC (fun c => !cellB c) l [] h (by simp) (by simp) (by simp) (fun c hm => wcell1_c c (hc c hm) h) hl) ?_
 simp [hh, List.not_any_eq_all_not]
theorem wsame1_c (a b : Cl) (h : List (List AV)) : Contract Tryz.prog 184 [.agg (cellC a), .agg (cellC b)] h (.v (.bool (a == b))) h [] := by
 refine contract_of k184 mixed (by simp [c184]) fun hh hargs => ?_
 obtain ⟨n, x⟩ := a
 obtain ⟨m, y⟩ := b
 have e : ((n, x) == (m, y)) = (n == m && x == y) := rfl
 cases hnm : n == m with
 | false => simp [c184, cellC, hnm, hh, e]
 | true =>
  simp [c184, cellC, hnm]
  refine xcall_self (by simp) (equal_c x y _) ?_
  simp [hh, e, hnm]
theorem wsame_c (l m : List Cl) (hl : l.length <= 140737488355328) (h : List (List AV)) : Contract Tryz.prog 169 [.sl 2 (enc cellC l) none .no, .sl 2 (enc cellC m) none .no] h (.v (.bool (l == m))) h [] := by
 refine contract_of k169 mixed (by simp [c169]) fun hh hargs => ?_
 simp [c169]
 refine xcall_self (by simp) (equalF_any mixed k183 (by rfl) (· == ·) cellC (by simp) (by simp) l m h (fun x y h => wsame1_c x y h) hl) ?_
 simp [hh, eqL_beq]
theorem wflat_len {α : Type} (e : α -> List UInt8) (l : List α) (j : Nat) : ((l.take j).flatMap e).length <= (l.flatMap e).length := by
 conv => rhs; rw [<- List.take_append_drop j l]
 rw [List.flatMap_append, List.length_append]; omega
theorem flat_next {α : Type} (e : α -> List UInt8) {l : List α} {j : Nat} (hj : j < l.length) : (l.take (j + 1)).flatMap e = (l.take j).flatMap e ++ e l[j] := by
 rw [take_next hj, List.flatMap_append]; simp
theorem put_len (n size : Int) (h4 : size <= 4) (xs : List UInt8) : (putL xs n size).length <= xs.length + 4 := by
 unfold putL
 split
 ·simp [putTo_length]; omega
 ·omega
theorem flat_step {α : Type} (e : α -> List UInt8) (l : List α) (a j : Nat) (hj : j < l.length) (N : Nat) (hN : a + (l.flatMap e).length <= N) : (l.take (j + 1)).flatMap e = (l.take j).flatMap e ++ e l[j] /\ a + (((l.take j).flatMap e).length + (e l[j]).length) <= N := by
 have h1 := flat_next e hj
 have h2 := wflat_len e l (j + 1)
 rw [h1, List.length_append] at h2
 exact ⟨h1, by omega⟩
def textsL (l : List (List UInt8)) : List UInt8 := l.flatMap He.encT
theorem wtexts_c (l : List (List UInt8)) (hl : (textsL l).length <= 140737488355328) (h : List (List AV)) : Contract Tryz.prog 148 [.sl 1 (enc strC l) none .no] h (.sl 1 (bytesE (textsL l)) none (.own .res)) h [] := by
 have hn : ∀ l : List (List UInt8), l.length <= (textsL l).length := fun l => by
  induction l with
  | nil => simp
  | cons x r ih => simp [textsL, He.encT] at ih ⊢; omega
 have hl0 := hn l
 refine contract_of k148 mixed (by simp [c148]) fun hh hargs => ?_
 simp at hargs
 simp [c148]
 refine xloop_ok (D := Nat) (fun j => ⟨[(6, .sl 1 (enc strC l) none .no), (7, .v (.int .i64 l.length)), (8, .v (.int .i64 j))], [(3, .sl 1 (bytesE (textsL (l.take j))) none (.own (.slot 3)))], h, []⟩) (fun j => j <= l.length) (fun j => l.length - j) 0 (by simp) ?_ ?_
 ·simp [Leq, hh, hargs, textsL]
 ·intro j hj
  by_cases hlt : j < l.length
  ·have hlt' : (j : Int) < l.length := by omega
   have hw : IntKind.i64.wrap ((j : Int) + 1) = (j : Int) + 1 := wrap64 (by omega) (by omega)
   obtain ⟨hx, hb⟩ := flat_step He.encT l 0 j hlt _ (by simpa [textsL] using hl)
   have hx' : textsL (l.take (j + 1)) = textsL (l.take j) ++ (l[j] ++ [0]) := hx
   have hb' : 0 + ((textsL (l.take j)).length + (l[j] ++ [0]).length) <= 140737488355328 := hb
   rw [List.length_append, List.length_singleton] at hb'
   simp [hlt, hlt', strC, hw]
   refine ⟨by omega, by omega, j + 1, by omega, by omega, ?_⟩
   simp [Leq, hh, hargs, hx']
  ·have hlt' : ¬ (j : Int) < l.length := by omega
   have : j = l.length := by omega
   subst this
   simp [hh]
def listL {α : Type} (e : α -> List UInt8) (l : List α) : List UInt8 := putL [] l.length 2 ++ l.flatMap e
theorem wlistI_c (e : Int -> List UInt8) (l : List Int) (g : FuncId) (cap : List AV) (h : List (List AV)) (hl : (listL e l).length <= 140737488355328) (hl2 : l.length <= 140737488355328) (hcap : ∀ c ∈ cap, c.idOf = none) (hlt : ltL h.length cap)
  (hg : ∀ n, n ∈ l -> Contract Tryz.prog g (.v (.int .i64 n) :: cap) h (.sl 1 (bytesE (e n)) none (.own .res)) h []) :
  Contract Tryz.prog 175 [.sl 1 (enc intC l) none .no, .fn (.func g) [] cap] h (.sl 1 (bytesE (listL e l)) none (.own .res)) h [] := by
 refine contract_of k175 mixed (by simp [c175]) fun hh hargs => ?_
 simp at hargs
 simp [c175]
 refine xcall_of (put_c [] l.length 2 (by simp) h) (by simp) (by simp) ?_
 simp
 refine xloop_ok (D := Nat) (fun j => ⟨[(1, .fn (.func g) [] cap), (11, .sl 1 (enc intC l) none .no), (12, .v (.int .i64 l.length)), (13, .v (.int .i64 j))], [(5, .sl 1 (bytesE (putL [] l.length 2 ++ (l.take j).flatMap e)) none (.own (.slot 5)))], h, []⟩) (fun j => j <= l.length) (fun j => l.length - j) 0 (by simp) ?_ ?_
 ·simp [Leq, hh, hargs]
 ·intro j hj
  by_cases hlt : j < l.length
  ·have hlt' : (j : Int) < l.length := by omega
   have hw : IntKind.i64.wrap ((j : Int) + 1) = (j : Int) + 1 := wrap64 (by omega) (by omega)
   obtain ⟨hx, hb⟩ := flat_step e l (putL [] l.length 2).length j hlt _ (by simpa [listL] using hl)
   have hq : ∀ y ∈ (AV.v (.int .i64 l[j])) :: cap, y.idOf = none := by simpa using hcap
   simp [hlt, hlt', intC]
   refine ⟨hcap, xcall_self hq (hg l[j] (List.getElem_mem _)) ?_⟩
   simp [idsOf_none hq, idsOf_none hcap, hw, -List.length_flatMap]
   refine ⟨by omega, j + 1, by omega, by omega, ?_⟩
   simp [Leq, hh, hargs, hx]
  ·have hlt' : ¬ (j : Int) < l.length := by omega
   have : j = l.length := by omega
   subst this
   simp [hh, listL]
theorem wlistC_c (e : Cl -> List UInt8) (l : List Cl) (g : FuncId) (cap : List AV) (h : List (List AV)) (hl : (listL e l).length <= 140737488355328) (hl2 : l.length <= 140737488355328) (hcap : ∀ c ∈ cap, c.idOf = none) (hlt : ltL h.length cap)
  (hg : ∀ n, n ∈ l -> ∀ h', Contract Tryz.prog g (.agg (cellC n) :: cap) (h ++ h') (.sl 1 (bytesE (e n)) none (.own .res)) (h ++ h') []) :
  Contract Tryz.prog 172 [.sl 2 (enc cellC l) none .no, .fn (.func g) [] cap] h (.sl 1 (bytesE (listL e l)) none (.own .res)) h [] := by
 refine contract_of k172 mixed (by simp [c172]) fun hh hargs => ?_
 simp at hargs
 simp [c172]
 refine xcall_of (put_c [] l.length 2 (by simp) h) (by simp) (by simp) ?_
 simp
 refine xloop_ok (D := Nat) (fun j => ⟨[(1, .fn (.func g) [] cap), (11, .sl 2 (enc cellC l) none .no), (12, .v (.int .i64 l.length)), (13, .v (.int .i64 j))], [(5, .sl 1 (bytesE (putL [] l.length 2 ++ (l.take j).flatMap e)) none (.own (.slot 5)))], h, []⟩) (fun j => j <= l.length) (fun j => l.length - j) 0 (by simp) ?_ ?_
 ·simp [Leq, hh, hargs]
 ·intro j hj
  by_cases hlt : j < l.length
  ·have hlt' : (j : Int) < l.length := by omega
   have hw : IntKind.i64.wrap ((j : Int) + 1) = (j : Int) + 1 := wrap64 (by omega) (by omega)
   obtain ⟨hx, hb⟩ := flat_step e l (putL [] l.length 2).length j hlt _ (by simpa [listL] using hl)
   have hq : ∀ y ∈ (AV.agg (cellC l[j])) :: cap, y.idOf = none := by simpa using hcap
   simp [hlt, hlt']
   refine ⟨hcap, xcall_self hq (hg l[j] (List.getElem_mem _) _) ?_⟩
   simp [idsOf_none hq, idsOf_none hcap, hw, -List.length_flatMap]
   refine ⟨by omega, j + 1, by omega, by omega, ?_⟩
   simp [Leq, hh, hargs, hx]
  ·have hlt' : ¬ (j : Int) < l.length := by omega
   have : j = l.length := by omega
   subst this
   simp [hh, listL]
def numE (size : Int) (n : Int) : List UInt8 := putL [] n size
theorem wnum1_c (size n : Int) (i : Nat) (h : List (List AV)) (hi : h[i]? = some [.v (.int .i64 size)]) : Contract Tryz.prog 176 [.v (.int .i64 n), .box i 0] h (.sl 1 (bytesE (numE size n)) none (.own .res)) h [] := by
 refine contract_of k176 mixed (by simp [c176]) fun hh hargs => ?_
 simp [c176, hi]
 refine xcall_of (put_c [] n size (by simp) h) (by simp) (by simp) ?_
 simp [hh, numE]
theorem wnumbers_c (size : Int) (l : List Int) (h : List (List AV)) (hl : (listL (numE size) l).length <= 140737488355328) (hl2 : l.length <= 140737488355328) :
  Contract Tryz.prog 153 [.v (.int .i64 size), .sl 1 (enc intC l) none .no] h (.sl 1 (bytesE (listL (numE size) l)) none (.own .res)) h [] := by
 refine contract_of k153 mixed (by simp [c153]) fun hh hargs => ?_
 simp [c153]
 refine xcall_self (by simp) (wlistI_c (numE size) l _ [.box h.length 0] _ hl hl2 (by simp) (by simp) fun n _ => wnum1_c size n _ _ (by simp)) ?_
 simp [hh]
def cellE (c : Cl) : List UInt8 := if c.1 = true then putL [] 4294967295 4 else putL [] c.2.length 4 ++ c.2
theorem cellE_null (b : List UInt8) : cellE (true, b) = putL [] 4294967295 4 := if_pos rfl
theorem cellE_bytes (b : List UInt8) : cellE (false, b) = putL [] b.length 4 ++ b := if_neg (by simp)
theorem wcell_c (c : Cl) (h : List (List AV)) (hl : c.2.length <= 70000000000000) : Contract Tryz.prog 173 [.agg (cellC c)] h (.sl 1 (bytesE (cellE c)) none (.own .res)) h [] := by
 refine contract_of k173 mixed (by simp [c173]) fun hh hargs => ?_
 obtain ⟨n, b⟩ := c
 cases n with
 | true =>
  rw [cellE_null]
  generalize hN : (4294967295 : Int) = N
  have hc : c173 = c173 := rfl
  simp [c173, cellC, hN]
  refine xcall_of (put_c [] N 4 (by simp) _) (by simp) (by simp) ?_
  simp [hh]
 | false =>
  have hp := put_len b.length 4 (by omega) []
  rw [cellE_bytes]
  simp [c173, cellC]
  refine xcall_of (put_c [] b.length 4 (by simp) _) (by simp) (by simp) ?_
  simp at hl hp
  simp [hh]
  omega
theorem wcells2_c (l : List Cl) (h : List (List AV)) (hl : (listL cellE l).length <= 140737488355328) (hl2 : l.length <= 140737488355328) (hl3 : ∀ c ∈ l, c.2.length <= 70000000000000) :
  Contract Tryz.prog 150 [.sl 2 (enc cellC l) none .no] h (.sl 1 (bytesE (listL cellE l)) none (.own .res)) h [] := by
 refine contract_of k150 mixed (by simp [c150]) fun hh hargs => ?_
 simp [c150]
 refine xcall_self (by simp) (wlistC_c cellE l _ [] _ hl hl2 (by simp) (by simp) fun n hn h' => wcell_c n _ (hl3 n hn)) ?_
 simp [hh]
end Go.Proofs.YtdfgljojemmlcaaGreat.Ax
