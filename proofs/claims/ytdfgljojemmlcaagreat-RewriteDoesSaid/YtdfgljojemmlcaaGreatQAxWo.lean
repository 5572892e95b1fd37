import Derived.Test.YtdfgljojemmlcaaGreatQAxSc
import Derived.Test.YtdfgljojemmlcaaGreatQCodeW
set_option linter.unusedSimpArgs false
set_option linter.unusedVariables false
open List renaming not_any_eq_all_not -> Q0, take -> Q1, length_append -> Q2, flatMap_append -> Q3, length_flatMap -> Q4, getElem_mem -> Q5
namespace Go.Proofs.YtdfgljojemmlcaaGreat.Ax
open Go.RowKit Go By
theorem ay {α : Sort _} {a : α} : a = a := of_eq_true (eq_self a)
abbrev Cl := Bool × List UInt8
def aC (c : Cl) : List AV := [.v (.bool c.1), .sl 1 (af c.2) none .no]
@[simp] theorem Ii (x : Cl) : (aC x).length = 2 := ay
@[simp] theorem Ey (x : Cl) : (aC x).map AV.unown = aC x := ay
@[simp] theorem Hh (x : Cl) : Q1 2 (aC x) = aC x := ay
@[simp] theorem KL (x : Cl) (h : 1 < (aC x).length) : (aC x)[1] = .sl 1 (af x.2) none .no := ay
theorem dk (x : Cl) : aC x = [.v (.bool x.1), .sl 1 (af x.2) none .no] := rfl
@[simp] theorem As (n : Nat) (x : Cl) : dP n (aC x) := by simp [dk]
@[simp] theorem HZ (n : Nat) (l : List Cl) : aw n (ai aC l) := cp _ n (As n) l
structure Ms where
 type : Int
 body : List UInt8
 deriving DecidableEq
def xW (x : Ms) : List AV := [.v (.int .u8 x.type), .sl 1 (af x.body) none .no]
@[simp] theorem LN (x : Ms) : (xW x).length = 2 := ay
@[simp] theorem IS (x : Ms) : (xW x).map AV.unown = xW x := ay
@[simp] theorem KJ (x : Ms) : Q1 2 (xW x) = xW x := ay
@[simp] theorem OB (x : Ms) (h : 0 < (xW x).length) : (xW x)[0] = .v (.int .u8 x.type) := ay
@[simp] theorem OZ (x : Ms) (h : 1 < (xW x).length) : (xW x)[1] = .sl 1 (af x.body) none .no := ay
theorem eL (x : Ms) : xW x = [.v (.int .u8 x.type), .sl 1 (af x.body) none .no] := rfl
structure Co where
 name : List UInt8
 table : Int
 attr : Int
 oid : Int
 size : Int
 mod : Int
 format : Int
 deriving DecidableEq
def gM (x : Co) : List AV := [.v (.string (ah x.name)), .v (.int .i64 x.table), .v (.int .i64 x.attr), .v (.int .i64 x.oid), .v (.int .i64 x.size), .v (.int .i64 x.mod), .v (.int .i64 x.format)]
@[simp] theorem Lc (x : Co) : (gM x).length = 7 := ay
@[simp] theorem IU (x : Co) : (gM x).map AV.unown = gM x := ay
@[simp] theorem JU (x : Co) : Q1 7 (gM x) = gM x := ay
@[simp] theorem Ng (x : Co) (h : 0 < (gM x).length) : (gM x)[0] = .v (.string (ah x.name)) := ay
@[simp] theorem N0 (x : Co) (h : 1 < (gM x).length) : (gM x)[1] = .v (.int .i64 x.table) := ay
@[simp] theorem MB (x : Co) (h : 2 < (gM x).length) : (gM x)[2] = .v (.int .i64 x.attr) := ay
@[simp] theorem NW (x : Co) (h : 3 < (gM x).length) : (gM x)[3] = .v (.int .i64 x.oid) := ay
@[simp] theorem M9 (x : Co) (h : 4 < (gM x).length) : (gM x)[4] = .v (.int .i64 x.size) := ay
@[simp] theorem Pc (x : Co) (h : 5 < (gM x).length) : (gM x)[5] = .v (.int .i64 x.mod) := ay
@[simp] theorem MX (x : Co) (h : 6 < (gM x).length) : (gM x)[6] = .v (.int .i64 x.format) := ay
theorem zw (x : Co) : gM x = [.v (.string (ah x.name)), .v (.int .i64 x.table), .v (.int .i64 x.attr), .v (.int .i64 x.oid), .v (.int .i64 x.size), .v (.int .i64 x.mod), .v (.int .i64 x.format)] := rfl
@[simp] theorem Gf (n : Nat) (x : Co) : dP n (gM x) := by simp [zw]
@[simp] theorem JI (n : Nat) (l : List Co) : aw n (ai gM l) := cp _ n (Gf n) l
structure Fi where
 code : Int
 text : List UInt8
 deriving DecidableEq
def lC (x : Fi) : List AV := [.v (.int .u8 x.code), .v (.string (ah x.text))]
@[simp] theorem LF (x : Fi) : (lC x).length = 2 := ay
@[simp] theorem Jh (x : Fi) : (lC x).map AV.unown = lC x := ay
@[simp] theorem KF (x : Fi) : Q1 2 (lC x) = lC x := ay
@[simp] theorem N3 (x : Fi) (h : 0 < (lC x).length) : (lC x)[0] = .v (.int .u8 x.code) := ay
@[simp] theorem Nv (x : Fi) (h : 1 < (lC x).length) : (lC x)[1] = .v (.string (ah x.text)) := ay
theorem pp (x : Fi) : lC x = [.v (.int .u8 x.code), .v (.string (ah x.text))] := rfl
@[simp] theorem Gn (n : Nat) (x : Fi) : dP n (lC x) := by simp [pp]
@[simp] theorem KR (n : Nat) (l : List Fi) : aw n (ai lC l) := cp _ n (Gn n) l
structure Sm where
 text : List UInt8
 oids : List Int
 deriving DecidableEq
def db (x : Sm) : List AV := [.v (.string (ah x.text)), .sl 1 (ai ao x.oids) none .no]
@[simp] theorem LH (x : Sm) : (db x).length = 2 := ay
@[simp] theorem IW (x : Sm) : (db x).map AV.unown = db x := ay
@[simp] theorem J6 (x : Sm) : Q1 2 (db x) = db x := ay
@[simp] theorem MQ (x : Sm) (h : 0 < (db x).length) : (db x)[0] = .v (.string (ah x.text)) := ay
@[simp] theorem O7 (x : Sm) (h : 1 < (db x).length) : (db x)[1] = .sl 1 (ai ao x.oids) none .no := ay
theorem aR (x : Sm) : db x = [.v (.string (ah x.text)), .sl 1 (ai ao x.oids) none .no] := rfl
@[simp] theorem FI (n : Nat) (x : Sm) : dP n (db x) := by simp [aR]
@[simp] theorem KS (n : Nat) (l : List Sm) : aw n (ai db l) := cp _ n (FI n) l
structure Fm where
 kind : Int
 what : Int
 name : List UInt8
 portal : List UInt8
 text : List UInt8
 oids : List Int
 formats : List Int
 results : List Int
 params : List Cl
 max : Int
 deriving DecidableEq
def aG (x : Fm) : List AV := [.v (.int .u8 x.kind), .v (.int .u8 x.what), .v (.string (ah x.name)), .v (.string (ah x.portal)), .v (.string (ah x.text)), .sl 1 (ai ao x.oids) none .no, .sl 1 (ai ao x.formats) none .no, .sl 1 (ai ao x.results) none .no, .sl 2 (ai aC x.params) none .no, .v (.int .i64 x.max)]
@[simp] theorem Lg (x : Fm) : (aG x).length = 10 := ay
@[simp] theorem I0 (x : Fm) : (aG x).map AV.unown = aG x := ay
@[simp] theorem Kt (x : Fm) : Q1 10 (aG x) = aG x := ay
@[simp] theorem M0 (x : Fm) (h : 0 < (aG x).length) : (aG x)[0] = .v (.int .u8 x.kind) := ay
@[simp] theorem NE (x : Fm) (h : 1 < (aG x).length) : (aG x)[1] = .v (.int .u8 x.what) := ay
@[simp] theorem Nr (x : Fm) (h : 2 < (aG x).length) : (aG x)[2] = .v (.string (ah x.name)) := ay
@[simp] theorem Mm (x : Fm) (h : 3 < (aG x).length) : (aG x)[3] = .v (.string (ah x.portal)) := ay
@[simp] theorem OA (x : Fm) (h : 4 < (aG x).length) : (aG x)[4] = .v (.string (ah x.text)) := ay
@[simp] theorem Oh (x : Fm) (h : 5 < (aG x).length) : (aG x)[5] = .sl 1 (ai ao x.oids) none .no := ay
@[simp] theorem Mc (x : Fm) (h : 6 < (aG x).length) : (aG x)[6] = .sl 1 (ai ao x.formats) none .no := ay
@[simp] theorem My (x : Fm) (h : 7 < (aG x).length) : (aG x)[7] = .sl 1 (ai ao x.results) none .no := ay
@[simp] theorem Po (x : Fm) (h : 8 < (aG x).length) : (aG x)[8] = .sl 2 (ai aC x.params) none .no := ay
@[simp] theorem Of (x : Fm) (h : 9 < (aG x).length) : (aG x)[9] = .v (.int .i64 x.max) := ay
theorem fy (x : Fm) : aG x = [.v (.int .u8 x.kind), .v (.int .u8 x.what), .v (.string (ah x.name)), .v (.string (ah x.portal)), .v (.string (ah x.text)), .sl 1 (ai ao x.oids) none .no, .sl 1 (ai ao x.formats) none .no, .sl 1 (ai ao x.results) none .no, .sl 2 (ai aC x.params) none .no, .v (.int .i64 x.max)] := rfl
@[simp] theorem FX (n : Nat) (x : Fm) : dP n (aG x) := by simp [fy]
@[simp] theorem JT (n : Nat) (l : List Fm) : aw n (ai aG l) := cp _ n (FX n) l
structure Bk where
 kind : Int
 status : Int
 tag : List UInt8
 name : List UInt8
 value : List UInt8
 n : Int
 m : Int
 oids : List Int
 cols : List Co
 row : List Cl
 fields : List Fi
 deriving DecidableEq
def eH (x : Bk) : List AV := [.v (.int .u8 x.kind), .v (.int .u8 x.status), .v (.string (ah x.tag)), .v (.string (ah x.name)), .v (.string (ah x.value)), .v (.int .i64 x.n), .v (.int .i64 x.m), .sl 1 (ai ao x.oids) none .no, .sl 7 (ai gM x.cols) none .no, .sl 2 (ai aC x.row) none .no, .sl 2 (ai lC x.fields) none .no]
@[simp] theorem Ly (x : Bk) : (eH x).length = 11 := ay
@[simp] theorem Ja (x : Bk) : (eH x).map AV.unown = eH x := ay
@[simp] theorem J9 (x : Bk) : Q1 11 (eH x) = eH x := ay
@[simp] theorem MO (x : Bk) (h : 0 < (eH x).length) : (eH x)[0] = .v (.int .u8 x.kind) := ay
@[simp] theorem Pj (x : Bk) (h : 1 < (eH x).length) : (eH x)[1] = .v (.int .u8 x.status) := ay
@[simp] theorem Mn (x : Bk) (h : 2 < (eH x).length) : (eH x)[2] = .v (.string (ah x.tag)) := ay
@[simp] theorem NI (x : Bk) (h : 3 < (eH x).length) : (eH x)[3] = .v (.string (ah x.name)) := ay
@[simp] theorem OS (x : Bk) (h : 4 < (eH x).length) : (eH x)[4] = .v (.string (ah x.value)) := ay
@[simp] theorem NR (x : Bk) (h : 5 < (eH x).length) : (eH x)[5] = .v (.int .i64 x.n) := ay
@[simp] theorem Oq (x : Bk) (h : 6 < (eH x).length) : (eH x)[6] = .v (.int .i64 x.m) := ay
@[simp] theorem Px (x : Bk) (h : 7 < (eH x).length) : (eH x)[7] = .sl 1 (ai ao x.oids) none .no := ay
@[simp] theorem Pk (x : Bk) (h : 8 < (eH x).length) : (eH x)[8] = .sl 7 (ai gM x.cols) none .no := ay
@[simp] theorem O9 (x : Bk) (h : 9 < (eH x).length) : (eH x)[9] = .sl 2 (ai aC x.row) none .no := ay
@[simp] theorem LR (x : Bk) (h : 10 < (eH x).length) : (eH x)[10] = .sl 2 (ai lC x.fields) none .no := ay
theorem bW (x : Bk) : eH x = [.v (.int .u8 x.kind), .v (.int .u8 x.status), .v (.string (ah x.tag)), .v (.string (ah x.name)), .v (.string (ah x.value)), .v (.int .i64 x.n), .v (.int .i64 x.m), .sl 1 (ai ao x.oids) none .no, .sl 7 (ai gM x.cols) none .no, .sl 2 (ai aC x.row) none .no, .sl 2 (ai lC x.fields) none .no] := rfl
@[simp] theorem Gg (n : Nat) (x : Bk) : dP n (eH x) := by simp [bW]
@[simp] theorem Jn (n : Nat) (l : List Bk) : aw n (ai eH l) := cp _ n (Gg n) l
structure To where
 set : Bool
 name : List UInt8
 id : Int
 deriving DecidableEq
def mY (x : To) : List AV := [.v (.bool x.set), .v (.string (ah x.name)), .v (.int .i64 x.id)]
@[simp] theorem Lb (x : To) : (mY x).length = 3 := ay
@[simp] theorem Iq (x : To) : (mY x).map AV.unown = mY x := ay
@[simp] theorem Jq (x : To) : Q1 3 (mY x) = mY x := ay
theorem bG (x : To) : mY x = [.v (.bool x.set), .v (.string (ah x.name)), .v (.int .i64 x.id)] := rfl
@[simp] theorem F8 (n : Nat) (x : To) : dP n (mY x) := by simp [bG]
@[simp] theorem Kk (n : Nat) (l : List To) : aw n (ai mY l) := cp _ n (F8 n) l
structure Oc where
 kind : Int
 id : Int
 deriving DecidableEq
def jg (x : Oc) : List AV := [.v (.int .i64 x.kind), .v (.int .i64 x.id)]
@[simp] theorem LD (x : Oc) : (jg x).length = 2 := ay
@[simp] theorem Jf (x : Oc) : (jg x).map AV.unown = jg x := ay
@[simp] theorem No (x : Oc) (h : 0 < (jg x).length) : (jg x)[0] = .v (.int .i64 x.kind) := ay
@[simp] theorem OJ (x : Oc) (h : 1 < (jg x).length) : (jg x)[1] = .v (.int .i64 x.id) := ay
theorem sV (x : Oc) : jg x = [.v (.int .i64 x.kind), .v (.int .i64 x.id)] := rfl
@[simp] theorem Fx (n : Nat) (x : Oc) : dP n (jg x) := by simp [sV]
@[simp] theorem J7 (n : Nat) (l : List Oc) : aw n (ai jg l) := cp _ n (Fx n) l
structure En where
 kind : Int
 hide : Bool
 from_ : List UInt8
 to : List UInt8
 good : List To
 bad : List To
 cache : List Oc
 reply : List UInt8
 deriving DecidableEq
def aK (x : En) : List AV := [.v (.int .i64 x.kind), .v (.bool x.hide), .v (.string (ah x.from_)), .v (.string (ah x.to)), .sl 3 (ai mY x.good) none .no, .sl 3 (ai mY x.bad) none .no, .sl 2 (ai jg x.cache) none .no, .sl 1 (af x.reply) none .no]
@[simp] theorem LA (x : En) : (aK x).length = 8 := ay
@[simp] theorem Jc (x : En) : (aK x).map AV.unown = aK x := ay
@[simp] theorem Jv (x : En) : Q1 8 (aK x) = aK x := ay
@[simp] theorem O3 (x : En) (h : 0 < (aK x).length) : (aK x)[0] = .v (.int .i64 x.kind) := ay
@[simp] theorem OU (x : En) (h : 1 < (aK x).length) : (aK x)[1] = .v (.bool x.hide) := ay
@[simp] theorem Ma (x : En) (h : 2 < (aK x).length) : (aK x)[2] = .v (.string (ah x.from_)) := ay
@[simp] theorem Mz (x : En) (h : 3 < (aK x).length) : (aK x)[3] = .v (.string (ah x.to)) := ay
@[simp] theorem OG (x : En) (h : 4 < (aK x).length) : (aK x)[4] = .sl 3 (ai mY x.good) none .no := ay
@[simp] theorem NU (x : En) (h : 5 < (aK x).length) : (aK x)[5] = .sl 3 (ai mY x.bad) none .no := ay
@[simp] theorem Mh (x : En) (h : 6 < (aK x).length) : (aK x)[6] = .sl 2 (ai jg x.cache) none .no := ay
@[simp] theorem Oz (x : En) (h : 7 < (aK x).length) : (aK x)[7] = .sl 1 (af x.reply) none .no := ay
theorem aW (x : En) : aK x = [.v (.int .i64 x.kind), .v (.bool x.hide), .v (.string (ah x.from_)), .v (.string (ah x.to)), .sl 3 (ai mY x.good) none .no, .sl 3 (ai mY x.bad) none .no, .sl 2 (ai jg x.cache) none .no, .sl 1 (af x.reply) none .no] := rfl
@[simp] theorem F5 (n : Nat) (x : En) : dP n (aK x) := by simp [aW]
@[simp] theorem Jy (n : Nat) (l : List En) : aw n (ai aK l) := cp _ n (F5 n) l
end Go.Proofs.YtdfgljojemmlcaaGreat.Ax
namespace Go.Proofs.YtdfgljojemmlcaaGreat.Ax
open Go.RowKit Go By Go.Proofs.YtdfgljojemmlcaaGreat.Nm Sc Dg
set_option maxRecDepth 10000
theorem CE (xs ys : List UInt8) (h : List (List AV)) : Contract Tryz.prog 185 [.sl 1 (af xs) none .no, .sl 1 (af ys) none .no] h (.v (.bool (xs == ys))) h [] := by
 refine ab MD mixed (by simp [FQ]) fun hh hargs => ?_
 simp [FQ, hh]
theorem yg (s : List UInt8) (h : List (List AV)) : Contract Tryz.prog 164 [.v (.string (ah s))] h (.v (.bool (!bv s))) h [] := by
 refine ab M8 mixed (by simp [G8]) fun hh hargs => ?_
 simp [G8]
 refine aa (by simp) (B2 s h) ?_
 simp [hh]
theorem pQ (l : List (List UInt8)) (hl : l.length <= 140737488355328) (h : List (List AV)) : Contract Tryz.prog 143 [.sl 1 (ai fS l) none .no] h (.v (.bool (l.all bv))) h [] := by
 refine ab OV mixed (by simp [Hl]) fun hh hargs => ?_
 simp [Hl]
 refine aa (by simp) (eR mixed Na OF (fun s => .v (.string (ah s))) (fun s => !bv s) l [] h (by simp) (by simp) (by simp) (fun s _ => yg s h) hl) ?_
 simp [hh, Q0]
def fT (size n : Int) : Bool := !decide (n < 0) && aV n size
theorem B3 (size n : Int) (i : Nat) (h : List (List AV)) (hi : h[i]? = some [.v (.int .i64 size)]) : Contract Tryz.prog 166 [.v (.int .i64 n), .box i 0] h (.v (.bool (!fT size n))) h [] := by
 refine ab Np mixed (by simp [DG]) fun hh hargs => ?_
 by_cases hn : n < 0
 ·simp [DG, hn, hh, fT]
 ·simp [DG, hn, hi]
  refine aa (by simp) (sa n size h) ?_
  simp [hh, fT, hn]
theorem sP (size : Int) (l : List Int) (hl : l.length <= 140737488355328) (h : List (List AV)) : Contract Tryz.prog 144 [.v (.int .i64 size), .sl 1 (ai ao l) none .no] h (.v (.bool (l.all (fT size)))) h [] := by
 refine ab NJ mixed (by simp [Hn]) fun hh hargs => ?_
 simp [Hn]
 refine aa (by simp) (eR mixed Hc F4 (fun n => .v (.int .i64 n)) (fun n => !fT size n) l [.box h.length 0] _ (by simp) (by simp) (by simp) (fun n _ => B3 size n _ _ (by simp)) hl) ?_
 simp [hh, Q0]
def lZ (size n : Int) : Bool := aV n size && cn n size == n
theorem Ca (size n : Int) (i : Nat) (h : List (List AV)) (hi : h[i]? = some [.v (.int .i64 size)]) : Contract Tryz.prog 186 [.v (.int .i64 n), .box i 0] h (.v (.bool (!lZ size n))) h [] := by
 refine ab NZ mixed (by simp [Gi]) fun hh hargs => ?_
 simp [Gi, hi]
 refine aa (by simp) (sa n size h) ?_
 cases hr : aV n size with
 | false => simp [hh, lZ, hr]
 | true =>
  simp [hi]
  refine aa (by simp) (AZ n size h) ?_
  simp [hh, lZ, hr]
  rfl
theorem Bb (size : Int) (l : List Int) (hl : l.length <= 140737488355328) (h : List (List AV)) : Contract Tryz.prog 179 [.v (.int .i64 size), .sl 1 (ai ao l) none .no] h (.v (.bool (l.all (lZ size)))) h [] := by
 refine ab ME mixed (by simp [Fa]) fun hh hargs => ?_
 simp [Fa]
 refine aa (by simp) (eR mixed Hc F4 (fun n => .v (.int .i64 n)) (fun n => !lZ size n) l [.box h.length 0] _ (by simp) (by simp) (by simp) (fun n _ => Ca size n _ _ (by simp)) hl) ?_
 simp [hh, Q0]
def dx (c : Cl) : Bool := decide (c.2.length <= 1048576) && !(c.1 && decide (0 < c.2.length))
theorem zB (c : Cl) (hc : c.2.length <= 140737488355328) (h : List (List AV)) : Contract Tryz.prog 177 [.agg (aC c)] h (.v (.bool (!dx c))) h [] := by
 refine ab Mi mixed (by simp [AQ]) fun hh hargs => ?_
 obtain ⟨n, b⟩ := c
 by_cases hb : (1048576 : Int) < b.length
 ·have hb' : ¬ b.length <= 1048576 := by omega
  simp [AQ, aC, hb, hb', hh, dx]
 ·have hb' : b.length <= 1048576 := by omega
  cases n with
  | false => simp [AQ, aC, hb, hb', hh, dx]
  | true =>
   simp [AQ, aC, hb, hb', hh, dx]
theorem zc (l : List Cl) (hl : l.length <= 140737488355328) (hc : ∀ c ∈ l, c.2.length <= 140737488355328) (h : List (List AV)) : Contract Tryz.prog 156 [.sl 2 (ai aC l) none .no] h (.v (.bool (l.all dx))) h [] := by
 refine ab OR mixed (by simp [EG]) fun hh hargs => ?_
 simp [EG]
 refine aa (by simp) (dB mixed PB PA aC (fun c => !dx c) l [] h (by simp) (by simp) (by simp) (fun c hm => zB c (hc c hm) h) hl) ?_
 simp [hh, Q0]
theorem Bq (a b : Cl) (h : List (List AV)) : Contract Tryz.prog 184 [.agg (aC a), .agg (aC b)] h (.v (.bool (a == b))) h [] := by
 refine ab OH mixed (by simp [B4]) fun hh hargs => ?_
 obtain ⟨n, x⟩ := a
 obtain ⟨m, y⟩ := b
 have e : ((n, x) == (m, y)) = (n == m && x == y) := rfl
 cases hnm : n == m with
 | false => simp [B4, aC, hnm, hh, e]
 | true =>
  simp [B4, aC, hnm]
  refine aa (by simp) (CE x y _) ?_
  simp [hh, e, hnm]
theorem C9 (l m : List Cl) (hl : l.length <= 140737488355328) (h : List (List AV)) : Contract Tryz.prog 169 [.sl 2 (ai aC l) none .no, .sl 2 (ai aC m) none .no] h (.v (.bool (l == m))) h [] := by
 refine ab M6 mixed (by simp [Gu]) fun hh hargs => ?_
 simp [Gu]
 refine aa (by simp) (vk mixed Pd (by rfl) (· == ·) aC (by simp) (by simp) l m h (fun x y h => Bq x y h) hl) ?_
 simp [hh, eU]
theorem xI {α : Type} (e : α -> List UInt8) (l : List α) (j : Nat) : ((l.take j).flatMap e).length <= (l.flatMap e).length := by
 conv => rhs; rw [<- List.take_append_drop j l]
 rw [Q3, Q2]; omega
theorem mF {α : Type} (e : α -> List UInt8) {l : List α} {j : Nat} (hj : j < l.length) : (l.take (j + 1)).flatMap e = (l.take j).flatMap e ++ e l[j] := by
 rw [jZ hj, Q3]; simp
theorem put_len (n size : Int) (h4 : size <= 4) (xs : List UInt8) : (bo xs n size).length <= xs.length + 4 := by
 unfold bo
 split
 ·simp [aH]; omega
 ·omega
theorem cK {α : Type} (e : α -> List UInt8) (l : List α) (a j : Nat) (hj : j < l.length) (N : Nat) (hN : a + (l.flatMap e).length <= N) : (l.take (j + 1)).flatMap e = (l.take j).flatMap e ++ e l[j] /\ a + (((l.take j).flatMap e).length + (e l[j]).length) <= N := by
 have h1 := mF e hj
 have h2 := xI e l (j + 1)
 rw [h1, Q2] at h2
 exact ⟨h1, by omega⟩
def bX (l : List (List UInt8)) : List UInt8 := l.flatMap He.encT
theorem lI (l : List (List UInt8)) (hl : (bX l).length <= 140737488355328) (h : List (List AV)) : Contract Tryz.prog 148 [.sl 1 (ai fS l) none .no] h (.sl 1 (af (bX l)) none (.own .res)) h [] := by
 have hn : ∀ l : List (List UInt8), l.length <= (bX l).length := fun l => by
  induction l with
  | nil => simp
  | cons x r ih => simp [bX, He.encT] at ih ⊢; omega
 have hl0 := hn l
 refine ab Mg mixed (by simp [Hb]) fun hh hargs => ?_
 simp at hargs
 simp [Hb]
 refine am (D := Nat) (fun j => ⟨[(6, .sl 1 (ai fS l) none .no), (7, .v (.int .i64 l.length)), (8, .v (.int .i64 j))], [(3, .sl 1 (af (bX (l.take j))) none (.own (.slot 3)))], h, []⟩) (fun j => j <= l.length) (fun j => l.length - j) 0 (by simp) ?_ ?_
 ·simp [Leq, hh, hargs, bX]
 ·intro j hj
  by_cases hlt : j < l.length
  ·have hlt' : (j : Int) < l.length := by omega
   have hw : IntKind.i64.wrap ((j : Int) + 1) = (j : Int) + 1 := wrap64 (by omega) (by omega)
   obtain ⟨hx, hb⟩ := cK He.encT l 0 j hlt _ (by simpa [bX] using hl)
   have hx' : bX (l.take (j + 1)) = bX (l.take j) ++ (l[j] ++ [0]) := hx
   have hb' : 0 + ((bX (l.take j)).length + (l[j] ++ [0]).length) <= 140737488355328 := hb
   rw [Q2, List.length_singleton] at hb'
   simp [hlt, hlt', fS, hw]
   refine ⟨by omega, by omega, j + 1, by omega, by omega, ?_⟩
   simp [Leq, hh, hargs, hx']
  ·have hlt' : ¬ (j : Int) < l.length := by omega
   have : j = l.length := by omega
   subst this
   simp [hh]
def bV {α : Type} (e : α -> List UInt8) (l : List α) : List UInt8 := bo [] l.length 2 ++ l.flatMap e
theorem AS (e : Int -> List UInt8) (l : List Int) (g : FuncId) (cap : List AV) (h : List (List AV)) (hl : (bV e l).length <= 140737488355328) (hl2 : l.length <= 140737488355328) (hcap : ∀ c ∈ cap, c.idOf = none) (hlt : dP h.length cap)
  (hg : ∀ n, n ∈ l -> Contract Tryz.prog g (.v (.int .i64 n) :: cap) h (.sl 1 (af (e n)) none (.own .res)) h []) :
  Contract Tryz.prog 175 [.sl 1 (ai ao l) none .no, .fn (.func g) [] cap] h (.sl 1 (af (bV e l)) none (.own .res)) h [] := by
 refine ab NB mixed (by simp [Hy]) fun hh hargs => ?_
 simp at hargs
 simp [Hy]
 refine aj (kB [] l.length 2 (by simp) h) (by simp) (by simp) ?_
 simp
 refine am (D := Nat) (fun j => ⟨[(1, .fn (.func g) [] cap), (11, .sl 1 (ai ao l) none .no), (12, .v (.int .i64 l.length)), (13, .v (.int .i64 j))], [(5, .sl 1 (af (bo [] l.length 2 ++ (l.take j).flatMap e)) none (.own (.slot 5)))], h, []⟩) (fun j => j <= l.length) (fun j => l.length - j) 0 (by simp) ?_ ?_
 ·simp [Leq, hh, hargs]
 ·intro j hj
  by_cases hlt : j < l.length
  ·have hlt' : (j : Int) < l.length := by omega
   have hw : IntKind.i64.wrap ((j : Int) + 1) = (j : Int) + 1 := wrap64 (by omega) (by omega)
   obtain ⟨hx, hb⟩ := cK e l (bo [] l.length 2).length j hlt _ (by simpa [bV] using hl)
   have hq : ∀ y ∈ (AV.v (.int .i64 l[j])) :: cap, y.idOf = none := by simpa using hcap
   simp [hlt, hlt', ao]
   refine ⟨hcap, aa hq (hg l[j] (Q5 _)) ?_⟩
   simp [bZ hq, bZ hcap, hw, -Q4]
   refine ⟨by omega, j + 1, by omega, by omega, ?_⟩
   simp [Leq, hh, hargs, hx]
  ·have hlt' : ¬ (j : Int) < l.length := by omega
   have : j = l.length := by omega
   subst this
   simp [hh, bV]
theorem Aa (e : Cl -> List UInt8) (l : List Cl) (g : FuncId) (cap : List AV) (h : List (List AV)) (hl : (bV e l).length <= 140737488355328) (hl2 : l.length <= 140737488355328) (hcap : ∀ c ∈ cap, c.idOf = none) (hlt : dP h.length cap)
  (hg : ∀ n, n ∈ l -> ∀ h', Contract Tryz.prog g (.agg (aC n) :: cap) (h ++ h') (.sl 1 (af (e n)) none (.own .res)) (h ++ h') []) :
  Contract Tryz.prog 172 [.sl 2 (ai aC l) none .no, .fn (.func g) [] cap] h (.sl 1 (af (bV e l)) none (.own .res)) h [] := by
 refine ab MS mixed (by simp [EZ]) fun hh hargs => ?_
 simp at hargs
 simp [EZ]
 refine aj (kB [] l.length 2 (by simp) h) (by simp) (by simp) ?_
 simp
 refine am (D := Nat) (fun j => ⟨[(1, .fn (.func g) [] cap), (11, .sl 2 (ai aC l) none .no), (12, .v (.int .i64 l.length)), (13, .v (.int .i64 j))], [(5, .sl 1 (af (bo [] l.length 2 ++ (l.take j).flatMap e)) none (.own (.slot 5)))], h, []⟩) (fun j => j <= l.length) (fun j => l.length - j) 0 (by simp) ?_ ?_
 ·simp [Leq, hh, hargs]
 ·intro j hj
  by_cases hlt : j < l.length
  ·have hlt' : (j : Int) < l.length := by omega
   have hw : IntKind.i64.wrap ((j : Int) + 1) = (j : Int) + 1 := wrap64 (by omega) (by omega)
   obtain ⟨hx, hb⟩ := cK e l (bo [] l.length 2).length j hlt _ (by simpa [bV] using hl)
   have hq : ∀ y ∈ (AV.agg (aC l[j])) :: cap, y.idOf = none := by simpa using hcap
   simp [hlt, hlt']
   refine ⟨hcap, aa hq (hg l[j] (Q5 _) _) ?_⟩
   simp [bZ hq, bZ hcap, hw, -Q4]
   refine ⟨by omega, j + 1, by omega, by omega, ?_⟩
   simp [Leq, hh, hargs, hx]
  ·have hlt' : ¬ (j : Int) < l.length := by omega
   have : j = l.length := by omega
   subst this
   simp [hh, bV]
def aB (size : Int) (n : Int) : List UInt8 := bo [] n size
theorem Dy (size n : Int) (i : Nat) (h : List (List AV)) (hi : h[i]? = some [.v (.int .i64 size)]) : Contract Tryz.prog 176 [.v (.int .i64 n), .box i 0] h (.sl 1 (af (aB size n)) none (.own .res)) h [] := by
 refine ab Oa mixed (by simp [H0]) fun hh hargs => ?_
 simp [H0, hi]
 refine aj (kB [] n size (by simp) h) (by simp) (by simp) ?_
 simp [hh, aB]
theorem wg (size : Int) (l : List Int) (h : List (List AV)) (hl : (bV (aB size) l).length <= 140737488355328) (hl2 : l.length <= 140737488355328) :
  Contract Tryz.prog 153 [.v (.int .i64 size), .sl 1 (ai ao l) none .no] h (.sl 1 (af (bV (aB size) l)) none (.own .res)) h [] := by
 refine ab Nx mixed (by simp [HI]) fun hh hargs => ?_
 simp [HI]
 refine aa (by simp) (AS (aB size) l _ [.box h.length 0] _ hl hl2 (by simp) (by simp) fun n _ => Dy size n _ _ (by simp)) ?_
 simp [hh]
def eg (c : Cl) : List UInt8 := if c.1 = true then bo [] 4294967295 4 else bo [] c.2.length 4 ++ c.2
theorem pr (b : List UInt8) : eg (true, b) = bo [] 4294967295 4 := if_pos rfl
theorem nE (b : List UInt8) : eg (false, b) = bo [] b.length 4 ++ b := if_neg (by simp)
theorem CC (c : Cl) (h : List (List AV)) (hl : c.2.length <= 70000000000000) : Contract Tryz.prog 173 [.agg (aC c)] h (.sl 1 (af (eg c)) none (.own .res)) h [] := by
 refine ab MJ mixed (by simp [xH]) fun hh hargs => ?_
 obtain ⟨n, b⟩ := c
 cases n with
 | true =>
  rw [pr]
  generalize hN : (4294967295 : Int) = N
  have hc : xH = xH := rfl
  simp [xH, aC, hN]
  refine aj (kB [] N 4 (by simp) _) (by simp) (by simp) ?_
  simp [hh]
 | false =>
  have hp := put_len b.length 4 (by omega) []
  rw [nE]
  simp [xH, aC]
  refine aj (kB [] b.length 4 (by simp) _) (by simp) (by simp) ?_
  simp at hl hp
  simp [hh]
  omega
theorem ye (l : List Cl) (h : List (List AV)) (hl : (bV eg l).length <= 140737488355328) (hl2 : l.length <= 140737488355328) (hl3 : ∀ c ∈ l, c.2.length <= 70000000000000) :
  Contract Tryz.prog 150 [.sl 2 (ai aC l) none .no] h (.sl 1 (af (bV eg l)) none (.own .res)) h [] := by
 refine ab Pp mixed (by simp [F9]) fun hh hargs => ?_
 simp [F9]
 refine aa (by simp) (Aa eg l _ [] _ hl hl2 (by simp) (by simp) fun n hn h' => CC n _ (hl3 n hn)) ?_
 simp [hh]
end Go.Proofs.YtdfgljojemmlcaaGreat.Ax
