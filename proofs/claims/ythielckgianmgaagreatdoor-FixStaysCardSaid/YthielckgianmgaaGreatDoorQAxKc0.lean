/- Cells that are put in place, one by one: what is known stays. No function is named here. -/
import Derived.Test.YthielckgianmgaaGreatDoorQAxHs
import Derived.Test.YthielckgianmgaaGreatDoorQAxDg
import Derived.Test.YthielckgianmgaaGreatDoorQAxSc
import Derived.Test.YthielckgianmgaaGreatDoorQAxIb
/- The types of package api as Lean structures, and how they are laid out. No program is named here. Written by gen/ax_types.py. -/
namespace Go.Proofs.YthielckgianmgaaGreatDoor.Ax
open Go.RowKit Go By
set_option linter.unusedSimpArgs false
set_option linter.unusedVariables false

abbrev Cl := Bool × List UInt8
def cellC (c : Cl) : List AV := [.v (.bool c.1), .sl 1 (bytesE c.2) none .no]
@[simp] theorem cellC_len (x : Cl) : (cellC x).length = 2 := of_eq_true (eq_self _)
@[simp] theorem cellC_unown (x : Cl) : (cellC x).map AV.unown = cellC x := of_eq_true (eq_self _)
@[simp] theorem cellC_take (x : Cl) : List.take 2 (cellC x) = cellC x := of_eq_true (eq_self _)
@[simp] theorem cellC_g1 (x : Cl) (h : 1 < (cellC x).length) : (cellC x)[1] = .sl 1 (bytesE x.2) none .no := of_eq_true (eq_self _)
theorem cellC_mk (x : Cl) : cellC x = [.v (.bool x.1), .sl 1 (bytesE x.2) none .no] := rfl
@[simp] theorem cellC_lt (n : Nat) (x : Cl) : ltL n (cellC x) := by simp [cellC_mk]
@[simp] theorem ltLL_cellC (n : Nat) (l : List Cl) : ltLL n (enc cellC l) := ltLL_enc _ n (cellC_lt n) l
/-- api.Msg -/
structure Ms where
  type : Int
  body : List UInt8
  deriving DecidableEq
def msC (x : Ms) : List AV := [.v (.int .u8 x.type), .sl 1 (bytesE x.body) none .no]
@[simp] theorem msC_len (x : Ms) : (msC x).length = 2 := of_eq_true (eq_self _)
@[simp] theorem msC_unown (x : Ms) : (msC x).map AV.unown = msC x := of_eq_true (eq_self _)
@[simp] theorem msC_g0 (x : Ms) (h : 0 < (msC x).length) : (msC x)[0] = .v (.int .u8 x.type) := of_eq_true (eq_self _)
@[simp] theorem msC_g1 (x : Ms) (h : 1 < (msC x).length) : (msC x)[1] = .sl 1 (bytesE x.body) none .no := of_eq_true (eq_self _)
theorem msC_mk (x : Ms) : msC x = [.v (.int .u8 x.type), .sl 1 (bytesE x.body) none .no] := rfl
/-- api.Col -/
structure Co where
  name : List UInt8
  table : Int
  attr : Int
  oid : Int
  size : Int
  mod : Int
  format : Int
  deriving DecidableEq
def coC (x : Co) : List AV := [.v (.string (strB x.name)), .v (.int .i64 x.table), .v (.int .i64 x.attr), .v (.int .i64 x.oid), .v (.int .i64 x.size), .v (.int .i64 x.mod), .v (.int .i64 x.format)]
@[simp] theorem coC_len (x : Co) : (coC x).length = 7 := of_eq_true (eq_self _)
@[simp] theorem coC_unown (x : Co) : (coC x).map AV.unown = coC x := of_eq_true (eq_self _)
@[simp] theorem coC_take (x : Co) : List.take 7 (coC x) = coC x := of_eq_true (eq_self _)
@[simp] theorem coC_g0 (x : Co) (h : 0 < (coC x).length) : (coC x)[0] = .v (.string (strB x.name)) := of_eq_true (eq_self _)
@[simp] theorem coC_g1 (x : Co) (h : 1 < (coC x).length) : (coC x)[1] = .v (.int .i64 x.table) := of_eq_true (eq_self _)
@[simp] theorem coC_g2 (x : Co) (h : 2 < (coC x).length) : (coC x)[2] = .v (.int .i64 x.attr) := of_eq_true (eq_self _)
@[simp] theorem coC_g3 (x : Co) (h : 3 < (coC x).length) : (coC x)[3] = .v (.int .i64 x.oid) := of_eq_true (eq_self _)
@[simp] theorem coC_g4 (x : Co) (h : 4 < (coC x).length) : (coC x)[4] = .v (.int .i64 x.size) := of_eq_true (eq_self _)
@[simp] theorem coC_g5 (x : Co) (h : 5 < (coC x).length) : (coC x)[5] = .v (.int .i64 x.mod) := of_eq_true (eq_self _)
@[simp] theorem coC_g6 (x : Co) (h : 6 < (coC x).length) : (coC x)[6] = .v (.int .i64 x.format) := of_eq_true (eq_self _)
theorem coC_mk (x : Co) : coC x = [.v (.string (strB x.name)), .v (.int .i64 x.table), .v (.int .i64 x.attr), .v (.int .i64 x.oid), .v (.int .i64 x.size), .v (.int .i64 x.mod), .v (.int .i64 x.format)] := rfl
@[simp] theorem coC_lt (n : Nat) (x : Co) : ltL n (coC x) := by simp [coC_mk]
@[simp] theorem ltLL_coC (n : Nat) (l : List Co) : ltLL n (enc coC l) := ltLL_enc _ n (coC_lt n) l
/-- api.Field -/
structure Fi where
  code : Int
  text : List UInt8
  deriving DecidableEq
def fiC (x : Fi) : List AV := [.v (.int .u8 x.code), .v (.string (strB x.text))]
@[simp] theorem fiC_len (x : Fi) : (fiC x).length = 2 := of_eq_true (eq_self _)
@[simp] theorem fiC_unown (x : Fi) : (fiC x).map AV.unown = fiC x := of_eq_true (eq_self _)
@[simp] theorem fiC_take (x : Fi) : List.take 2 (fiC x) = fiC x := of_eq_true (eq_self _)
@[simp] theorem fiC_g0 (x : Fi) (h : 0 < (fiC x).length) : (fiC x)[0] = .v (.int .u8 x.code) := of_eq_true (eq_self _)
@[simp] theorem fiC_g1 (x : Fi) (h : 1 < (fiC x).length) : (fiC x)[1] = .v (.string (strB x.text)) := of_eq_true (eq_self _)
theorem fiC_mk (x : Fi) : fiC x = [.v (.int .u8 x.code), .v (.string (strB x.text))] := rfl
@[simp] theorem fiC_lt (n : Nat) (x : Fi) : ltL n (fiC x) := by simp [fiC_mk]
@[simp] theorem ltLL_fiC (n : Nat) (l : List Fi) : ltLL n (enc fiC l) := ltLL_enc _ n (fiC_lt n) l
@[simp] theorem fiC_id (x : Fi) : ∀ y ∈ fiC x, y.idOf = none := by simp [fiC_mk]
/-- api.Back -/
structure Bk where
  kind : Int
  status : Int
  tag : List UInt8
  name : List UInt8
  value : List UInt8
  n : Int
  m : Int
  oids : List Int
  cols : List Co
  row : List Cl
  fields : List Fi
  deriving DecidableEq
def bkC (x : Bk) : List AV := [.v (.int .u8 x.kind), .v (.int .u8 x.status), .v (.string (strB x.tag)), .v (.string (strB x.name)), .v (.string (strB x.value)), .v (.int .i64 x.n), .v (.int .i64 x.m), .sl 1 (enc intC x.oids) none .no, .sl 7 (enc coC x.cols) none .no, .sl 2 (enc cellC x.row) none .no, .sl 2 (enc fiC x.fields) none .no]
@[simp] theorem bkC_len (x : Bk) : (bkC x).length = 11 := of_eq_true (eq_self _)
@[simp] theorem bkC_unown (x : Bk) : (bkC x).map AV.unown = bkC x := of_eq_true (eq_self _)
@[simp] theorem bkC_take (x : Bk) : List.take 11 (bkC x) = bkC x := of_eq_true (eq_self _)
@[simp] theorem bkC_g0 (x : Bk) (h : 0 < (bkC x).length) : (bkC x)[0] = .v (.int .u8 x.kind) := of_eq_true (eq_self _)
@[simp] theorem bkC_g1 (x : Bk) (h : 1 < (bkC x).length) : (bkC x)[1] = .v (.int .u8 x.status) := of_eq_true (eq_self _)
@[simp] theorem bkC_g2 (x : Bk) (h : 2 < (bkC x).length) : (bkC x)[2] = .v (.string (strB x.tag)) := of_eq_true (eq_self _)
@[simp] theorem bkC_g3 (x : Bk) (h : 3 < (bkC x).length) : (bkC x)[3] = .v (.string (strB x.name)) := of_eq_true (eq_self _)
@[simp] theorem bkC_g4 (x : Bk) (h : 4 < (bkC x).length) : (bkC x)[4] = .v (.string (strB x.value)) := of_eq_true (eq_self _)
@[simp] theorem bkC_g5 (x : Bk) (h : 5 < (bkC x).length) : (bkC x)[5] = .v (.int .i64 x.n) := of_eq_true (eq_self _)
@[simp] theorem bkC_g6 (x : Bk) (h : 6 < (bkC x).length) : (bkC x)[6] = .v (.int .i64 x.m) := of_eq_true (eq_self _)
@[simp] theorem bkC_g7 (x : Bk) (h : 7 < (bkC x).length) : (bkC x)[7] = .sl 1 (enc intC x.oids) none .no := of_eq_true (eq_self _)
@[simp] theorem bkC_g8 (x : Bk) (h : 8 < (bkC x).length) : (bkC x)[8] = .sl 7 (enc coC x.cols) none .no := of_eq_true (eq_self _)
@[simp] theorem bkC_g9 (x : Bk) (h : 9 < (bkC x).length) : (bkC x)[9] = .sl 2 (enc cellC x.row) none .no := of_eq_true (eq_self _)
@[simp] theorem bkC_g10 (x : Bk) (h : 10 < (bkC x).length) : (bkC x)[10] = .sl 2 (enc fiC x.fields) none .no := of_eq_true (eq_self _)
theorem bkC_mk (x : Bk) : bkC x = [.v (.int .u8 x.kind), .v (.int .u8 x.status), .v (.string (strB x.tag)), .v (.string (strB x.name)), .v (.string (strB x.value)), .v (.int .i64 x.n), .v (.int .i64 x.m), .sl 1 (enc intC x.oids) none .no, .sl 7 (enc coC x.cols) none .no, .sl 2 (enc cellC x.row) none .no, .sl 2 (enc fiC x.fields) none .no] := rfl
@[simp] theorem bkC_lt (n : Nat) (x : Bk) : ltL n (bkC x) := by simp [bkC_mk]
@[simp] theorem ltLL_bkC (n : Nat) (l : List Bk) : ltLL n (enc bkC l) := ltLL_enc _ n (bkC_lt n) l
/-- api.TableOp -/
structure To where
  set : Bool
  name : List UInt8
  id : Int
  deriving DecidableEq
def toC (x : To) : List AV := [.v (.bool x.set), .v (.string (strB x.name)), .v (.int .i64 x.id)]
theorem toC_mk (x : To) : toC x = [.v (.bool x.set), .v (.string (strB x.name)), .v (.int .i64 x.id)] := rfl
@[simp] theorem toC_lt (n : Nat) (x : To) : ltL n (toC x) := by simp [toC_mk]
@[simp] theorem ltLL_toC (n : Nat) (l : List To) : ltLL n (enc toC l) := ltLL_enc _ n (toC_lt n) l
/-- api.CacheOp -/
structure Oc where
  kind : Int
  id : Int
  deriving DecidableEq
def ocC (x : Oc) : List AV := [.v (.int .i64 x.kind), .v (.int .i64 x.id)]
theorem ocC_mk (x : Oc) : ocC x = [.v (.int .i64 x.kind), .v (.int .i64 x.id)] := rfl
@[simp] theorem ocC_lt (n : Nat) (x : Oc) : ltL n (ocC x) := by simp [ocC_mk]
@[simp] theorem ltLL_ocC (n : Nat) (l : List Oc) : ltLL n (enc ocC l) := ltLL_enc _ n (ocC_lt n) l
/-- api.Entry -/
structure En where
  kind : Int
  hide : Bool
  from_ : List UInt8
  to : List UInt8
  good : List To
  bad : List To
  cache : List Oc
  reply : List UInt8
  deriving DecidableEq
def enC (x : En) : List AV := [.v (.int .i64 x.kind), .v (.bool x.hide), .v (.string (strB x.from_)), .v (.string (strB x.to)), .sl 3 (enc toC x.good) none .no, .sl 3 (enc toC x.bad) none .no, .sl 2 (enc ocC x.cache) none .no, .sl 1 (bytesE x.reply) none .no]
@[simp] theorem enC_len (x : En) : (enC x).length = 8 := of_eq_true (eq_self _)
@[simp] theorem enC_unown (x : En) : (enC x).map AV.unown = enC x := of_eq_true (eq_self _)
@[simp] theorem enC_take (x : En) : List.take 8 (enC x) = enC x := of_eq_true (eq_self _)
@[simp] theorem enC_g1 (x : En) (h : 1 < (enC x).length) : (enC x)[1] = .v (.bool x.hide) := of_eq_true (eq_self _)
@[simp] theorem enC_g2 (x : En) (h : 2 < (enC x).length) : (enC x)[2] = .v (.string (strB x.from_)) := of_eq_true (eq_self _)
@[simp] theorem enC_g3 (x : En) (h : 3 < (enC x).length) : (enC x)[3] = .v (.string (strB x.to)) := of_eq_true (eq_self _)
theorem enC_mk (x : En) : enC x = [.v (.int .i64 x.kind), .v (.bool x.hide), .v (.string (strB x.from_)), .v (.string (strB x.to)), .sl 3 (enc toC x.good) none .no, .sl 3 (enc toC x.bad) none .no, .sl 2 (enc ocC x.cache) none .no, .sl 1 (bytesE x.reply) none .no] := rfl
@[simp] theorem enC_lt (n : Nat) (x : En) : ltL n (enC x) := by simp [enC_mk]
end Go.Proofs.YthielckgianmgaaGreatDoor.Ax
/- slices.Clone of elements of k cells, as a call; and as a contract: a copy is a variable of its own. Written by gen/clone.py. -/
namespace Go.Proofs.YthielckgianmgaaGreatDoor.Ax
set_option maxRecDepth 100000
open Go.RowKit Go By Nm
set_option linter.unusedSimpArgs false
set_option linter.unusedVariables false
set_option maxRecDepth 10000

theorem info_of3 {P : Program} {t : TypeId} {z : Value} {k b : Nat} (h : (P.info? t).map (fun i => (i.zero, i.size, i.bytes)) = some (some z, k, b)) : ∃ i, P.info? t = some i ∧ i.zero = some z ∧ i.size = k ∧ i.bytes = b := by
  cases hi : P.info? t with
  | none => rw [hi] at h; cases h
  | some i => rw [hi] at h; injection h with h; injection h with h1 h2; injection h2 with h2 h3; exact ⟨i, rfl, h1, h2, h3⟩
/-- A slice's cells, one behind the other, as they lie. -/
theorem flat_sees {G : Ghost} {k : Nat} (hk0 : 0 < k) {es : List (List AV)} {nul : Option Bool} {room : Room} {x : Value} (h : Sees G (.sl k es nul room) x) (hne : es ≠ []) {w : World} (hW : WorldOk G w) :
    ∃ (b o cap : Nat) (us : List Value), x = .slice (some ⟨b, o, none⟩) es.length cap ∧ b < w.heap.size ∧ us.length = es.length * k ∧ es.flatten.length = es.length * k ∧ (∀ x ∈ us, x.oneCell' = true) ∧ (∀ (j : Nat) (u : Value), us[j]? = some u → w.cell? ⟨b, o + j, none⟩ = some u) ∧ ∀ (j : Nat) (c : AV), es.flatten[j]? = some c → Sees G c (us.getD j undef) := by
  cases h with
  | sl _ _ _ _ a len cap u hlen hn hk hcap hm hr hc hs h1 =>
    have hpos : 0 < es.length := List.length_pos_iff.2 hne
    obtain ⟨b, o, rfl, hcell⟩ := hc hpos
    subst hlen
    have hfl : es.flatten.length = es.length * k := by
      have key : ∀ l : List (List AV), (∀ e ∈ l, e.length = k) → l.flatten.length = l.length * k := fun l => by
        induction l with
        | nil => intro _; simp
        | cons x l ih => intro hl; rw [List.flatten_cons, List.length_append, ih fun e he => hl e (List.mem_cons_of_mem _ he), hl x (List.mem_cons_self ..), List.length_cons, Nat.succ_mul]; omega
      exact key es hk
    have at_ : ∀ j, j < es.length * k → j / k < es.length ∧ j % k < k ∧ j / k * k + j % k = j := fun j hj => ⟨(Nat.div_lt_iff_lt_mul hk0).2 hj, Nat.mod_lt _ hk0, by rw [Nat.mul_comm]; exact Nat.div_add_mod j k⟩
    have cellj : ∀ j, j < es.length * k → w.cell? ⟨b, o + j, none⟩ = some (u (j / k) (j % k)) := fun j hj => by
      obtain ⟨h2, h3, h4⟩ := at_ j hj
      have := hW.cell (hcell _ _ h2 h3)
      rwa [Nat.add_assoc, h4] at this
    refine ⟨b, o, cap, (List.range (es.length * k)).map fun j => u (j / k) (j % k), rfl, ?_, by simp, hfl, fun x hx => ?_, fun j y hy => ?_, fun j c hj => ?_⟩
    · exact lt_of_cell (cellj 0 (Nat.mul_pos hpos hk0))
    · obtain ⟨j, hj, rfl⟩ := List.mem_map.1 hx
      obtain ⟨h2, h3, _⟩ := at_ j (List.mem_range.1 hj)
      exact h1 _ _ h2 h3
    · rw [List.getElem?_map] at hy
      cases hj : (List.range (es.length * k))[j]? with
      | none => rw [hj] at hy; cases hy
      | some i =>
        rw [hj] at hy
        injection hy with hy
        have hlt := (List.getElem?_eq_some_iff.1 hj).1
        simp at hlt
        rw [List.getElem?_range hlt] at hj
        injection hj with hj
        subst hj hy
        exact cellj j hlt
    · have hlt : j < es.length * k := by rw [← hfl]; exact (List.getElem?_eq_some_iff.1 hj).1
      obtain ⟨h2, h3, h4⟩ := at_ j hlt
      rw [List.getD_eq_getElem?_getD, List.getElem?_map, List.getElem?_range hlt]
      have key : ∀ (l : List (List AV)) (p q : Nat) (c : AV), (∀ e ∈ l, e.length = k) → q < k → l.flatten[p * k + q]? = some c → ∃ e, l[p]? = some e ∧ e[q]? = some c := fun l => by
        induction l with
        | nil => intro p q c _ _ hh; simp at hh
        | cons x l ih =>
          intro p q c hl hq hh
          have hx := hl x (List.mem_cons_self ..)
          rw [List.flatten_cons] at hh
          cases p with
          | zero => rw [Nat.zero_mul, Nat.zero_add, List.getElem?_append_left (by omega)] at hh; exact ⟨x, rfl, hh⟩
          | succ p =>
            rw [List.getElem?_append_right (by rw [hx, Nat.succ_mul]; omega), hx, show (p + 1) * k + q - k = p * k + q by rw [Nat.succ_mul]; omega] at hh
            obtain ⟨e, h5, h6⟩ := ih p q c (fun e he => hl e (List.mem_cons_of_mem _ he)) hq hh
            exact ⟨e, by simpa using h5, h6⟩
      rw [← h4] at hj
      obtain ⟨e, h5, h6⟩ := key es _ _ c hk h3 hj
      exact hs _ e h5 _ c h6
theorem fi_info : (Tryz.prog.info? 60).map (fun i => (i.zero, i.size, i.bytes)) = some (some (.agg #[.int .u8 0, .string ByteArray.empty]), 2, 24) := by kernel_rfl
theorem clone_fi_any (b o n c : Nat) (us : List Value) (w : World) (hl : us.length = n * 2) (hc : ∀ (j : Nat) (u : Value), us[j]? = some u → w.cell? ⟨b, o + j, none⟩ = some u) (hb : b < w.heap.size) (h1 : ∀ u ∈ us, u.oneCell' = true) (hn : n ≤ 1000000000) :
    Calls Tryz.prog 56 #[.slice (some ⟨b, o, none⟩) n c] w fun e w' => ∃ v, e = .returned v ∧ w'.ownsRow w.heap.size 60 2 v n us ∧ Below w.heap.size w w' := by
  obtain ⟨i0, hi, hz0, hz1, hz2⟩ := info_of3 fi_info
  have heq := fun W : World => Lib.run_eql_slice_nil (P := Tryz.prog) W 30 60 (some ⟨b, o, none⟩) n c 0 0 Tryz.underlying30
  have HX0 : ∀ (j : Nat) (u : Value), us[j]? = some u → (w.alloc (.cells #[] 60)).cell? ((⟨b, o, none⟩ : Addr).add j) = some u := fun j u hu => by
    rw [add_plain, (cell_alloc w _ (o + j) hb).1]; exact hc j u hu
  have HX := Lib.hid HX0
  have HL := Lib.hid hl
  have H1 := Lib.hid h1
  clear HX0 hc hl h1
  go_enter Tryz.func56, Tryz.ntmps56
  go_wp2_with (at_builtin; refine wpList_append_own_at (w := w.alloc (.cells #[] 60)) rfl _ _ 30 rfl w.heap.size 60 i0 (.agg #[.int .u8 0, .string ByteArray.empty]) 2 24 Tryz.underlying30 hi hz0 hz1 hz2 rfl (by omega) _ 0 [] rfl ?c1 ⟨b, o, none⟩ n c us rfl HL.out HX.out H1.out ?c4 ?c5 ?c6 ?c7)
  case c1 => exact World.ownsRow_made w #[] 0 (Nat.le_refl _) (by simp [maxLen]) (by simp)
  case c4 => unfold maxLen; omega
  case c5 => omega
  case c6 => simp
  case c7 =>
    intro v' w' hown hg
    intros
    have HO := Lib.hid hown
    clear hown
    go_wp2
    go_ret
    refine ⟨v', rfl, by simpa using HO.out, ((Below.refl _ _).alloc (Nat.le_refl _) _).grown hg (by simp) (by simp [Value.ownBlock])⟩
theorem clone_fi_empty (ad : Addr) (c : Nat) (w : World) :
    Calls Tryz.prog 56 #[.slice (some ad) 0 c] w fun e w' => ∃ v, e = .returned v ∧ w'.ownsRow w.heap.size 60 2 v 0 [] ∧ Below w.heap.size w w' := by
  obtain ⟨i0, hi, hz0, hz1, hz2⟩ := info_of3 fi_info
  have heq := fun W : World => Lib.run_eql_slice_nil (P := Tryz.prog) W 30 60 (some ad) 0 c 0 0 Tryz.underlying30
  go_enter Tryz.func56, Tryz.ntmps56
  go_wp2_with (at_builtin; refine wpList_append_own_at (w := w.alloc (.cells #[] 60)) rfl _ _ 30 rfl w.heap.size 60 i0 (.agg #[.int .u8 0, .string ByteArray.empty]) 2 24 Tryz.underlying30 hi hz0 hz1 hz2 rfl (by omega) _ 0 [] rfl ?c1 ad 0 c [] rfl (by simp) (by simp) (by simp) ?c4 ?c5 ?c6 ?c7)
  case c1 => exact World.ownsRow_made w #[] 0 (Nat.le_refl _) (by simp [maxLen]) (by simp)
  case c4 => unfold maxLen; omega
  case c5 => omega
  case c6 => simp
  case c7 =>
    intro v' w' hown hg
    intros
    have HO := Lib.hid hown
    clear hown
    go_wp2
    go_ret
    refine ⟨v', rfl, by simpa using HO.out, ((Below.refl _ _).alloc (Nat.le_refl _) _).grown hg (by simp) (by simp [Value.ownBlock])⟩
theorem clone_fi_nil (w : World) (c : Nat) : Calls Tryz.prog 56 #[.slice none 0 c] w fun e w' => e = .returned (.slice none 0 0) ∧ w = w' := by
  have heq := fun W : World => Lib.run_eql_slice_nil (P := Tryz.prog) W 30 60 none 0 c 0 0 Tryz.underlying30
  go_enter Tryz.func56, Tryz.ntmps56
  go_wp2
  go_ret
  exact ⟨rfl, rfl⟩

theorem cell_info : (Tryz.prog.info? 56).map (fun i => (i.zero, i.size, i.bytes)) = some (some (.agg #[.bool false, .slice none 0 0]), 2, 32) := by kernel_rfl
theorem clone_cell_any (b o n c : Nat) (us : List Value) (w : World) (hl : us.length = n * 2) (hc : ∀ (j : Nat) (u : Value), us[j]? = some u → w.cell? ⟨b, o + j, none⟩ = some u) (hb : b < w.heap.size) (h1 : ∀ u ∈ us, u.oneCell' = true) (hn : n ≤ 1000000000) :
    Calls Tryz.prog 70 #[.slice (some ⟨b, o, none⟩) n c] w fun e w' => ∃ v, e = .returned v ∧ w'.ownsRow w.heap.size 56 2 v n us ∧ Below w.heap.size w w' := by
  obtain ⟨i0, hi, hz0, hz1, hz2⟩ := info_of3 cell_info
  have heq := fun W : World => Lib.run_eql_slice_nil (P := Tryz.prog) W 29 56 (some ⟨b, o, none⟩) n c 0 0 Tryz.underlying29
  have HX0 : ∀ (j : Nat) (u : Value), us[j]? = some u → (w.alloc (.cells #[] 56)).cell? ((⟨b, o, none⟩ : Addr).add j) = some u := fun j u hu => by
    rw [add_plain, (cell_alloc w _ (o + j) hb).1]; exact hc j u hu
  have HX := Lib.hid HX0
  have HL := Lib.hid hl
  have H1 := Lib.hid h1
  clear HX0 hc hl h1
  go_enter Tryz.func70, Tryz.ntmps70
  go_wp2_with (at_builtin; refine wpList_append_own_at (w := w.alloc (.cells #[] 56)) rfl _ _ 29 rfl w.heap.size 56 i0 (.agg #[.bool false, .slice none 0 0]) 2 32 Tryz.underlying29 hi hz0 hz1 hz2 rfl (by omega) _ 0 [] rfl ?c1 ⟨b, o, none⟩ n c us rfl HL.out HX.out H1.out ?c4 ?c5 ?c6 ?c7)
  case c1 => exact World.ownsRow_made w #[] 0 (Nat.le_refl _) (by simp [maxLen]) (by simp)
  case c4 => unfold maxLen; omega
  case c5 => omega
  case c6 => simp
  case c7 =>
    intro v' w' hown hg
    intros
    have HO := Lib.hid hown
    clear hown
    go_wp2
    go_ret
    refine ⟨v', rfl, by simpa using HO.out, ((Below.refl _ _).alloc (Nat.le_refl _) _).grown hg (by simp) (by simp [Value.ownBlock])⟩
theorem clone_cell_empty (ad : Addr) (c : Nat) (w : World) :
    Calls Tryz.prog 70 #[.slice (some ad) 0 c] w fun e w' => ∃ v, e = .returned v ∧ w'.ownsRow w.heap.size 56 2 v 0 [] ∧ Below w.heap.size w w' := by
  obtain ⟨i0, hi, hz0, hz1, hz2⟩ := info_of3 cell_info
  have heq := fun W : World => Lib.run_eql_slice_nil (P := Tryz.prog) W 29 56 (some ad) 0 c 0 0 Tryz.underlying29
  go_enter Tryz.func70, Tryz.ntmps70
  go_wp2_with (at_builtin; refine wpList_append_own_at (w := w.alloc (.cells #[] 56)) rfl _ _ 29 rfl w.heap.size 56 i0 (.agg #[.bool false, .slice none 0 0]) 2 32 Tryz.underlying29 hi hz0 hz1 hz2 rfl (by omega) _ 0 [] rfl ?c1 ad 0 c [] rfl (by simp) (by simp) (by simp) ?c4 ?c5 ?c6 ?c7)
  case c1 => exact World.ownsRow_made w #[] 0 (Nat.le_refl _) (by simp [maxLen]) (by simp)
  case c4 => unfold maxLen; omega
  case c5 => omega
  case c6 => simp
  case c7 =>
    intro v' w' hown hg
    intros
    have HO := Lib.hid hown
    clear hown
    go_wp2
    go_ret
    refine ⟨v', rfl, by simpa using HO.out, ((Below.refl _ _).alloc (Nat.le_refl _) _).grown hg (by simp) (by simp [Value.ownBlock])⟩
theorem clone_cell_nil (w : World) (c : Nat) : Calls Tryz.prog 70 #[.slice none 0 c] w fun e w' => e = .returned (.slice none 0 0) ∧ w = w' := by
  have heq := fun W : World => Lib.run_eql_slice_nil (P := Tryz.prog) W 29 56 none 0 c 0 0 Tryz.underlying29
  go_enter Tryz.func70, Tryz.ntmps70
  go_wp2
  go_ret
  exact ⟨rfl, rfl⟩

theorem by_info : (Tryz.prog.info? 5).map (fun i => (i.zero, i.size, i.bytes)) = some (some (.int .u8 0), 1, 1) := by kernel_rfl
theorem clone_by_any (b o n c : Nat) (us : List Value) (w : World) (hl : us.length = n * 1) (hc : ∀ (j : Nat) (u : Value), us[j]? = some u → w.cell? ⟨b, o + j, none⟩ = some u) (hb : b < w.heap.size) (h1 : ∀ u ∈ us, u.oneCell' = true) (hn : n ≤ 140737488351232) :
    Calls Tryz.prog 71 #[.slice (some ⟨b, o, none⟩) n c] w fun e w' => ∃ v, e = .returned v ∧ w'.ownsRow w.heap.size 5 1 v n us ∧ Below w.heap.size w w' := by
  obtain ⟨i0, hi, hz0, hz1, hz2⟩ := info_of3 by_info
  have heq := fun W : World => Lib.run_eql_slice_nil (P := Tryz.prog) W 24 5 (some ⟨b, o, none⟩) n c 0 0 Tryz.underlying24
  have HX0 : ∀ (j : Nat) (u : Value), us[j]? = some u → (w.alloc (.cells #[] 5)).cell? ((⟨b, o, none⟩ : Addr).add j) = some u := fun j u hu => by
    rw [add_plain, (cell_alloc w _ (o + j) hb).1]; exact hc j u hu
  have HX := Lib.hid HX0
  have HL := Lib.hid hl
  have H1 := Lib.hid h1
  clear HX0 hc hl h1
  go_enter Tryz.func71, Tryz.ntmps71
  go_wp2_with (at_builtin; refine wpList_append_own_at (w := w.alloc (.cells #[] 5)) rfl _ _ 24 rfl w.heap.size 5 i0 (.int .u8 0) 1 1 Tryz.underlying24 hi hz0 hz1 hz2 rfl (by omega) _ 0 [] rfl ?c1 ⟨b, o, none⟩ n c us rfl HL.out HX.out H1.out ?c4 ?c5 ?c6 ?c7)
  case c1 => exact World.ownsRow_made w #[] 0 (Nat.le_refl _) (by simp [maxLen]) (by simp)
  case c4 => unfold maxLen; omega
  case c5 => omega
  case c6 => simp
  case c7 =>
    intro v' w' hown hg
    intros
    have HO := Lib.hid hown
    clear hown
    go_wp2
    go_ret
    refine ⟨v', rfl, by simpa using HO.out, ((Below.refl _ _).alloc (Nat.le_refl _) _).grown hg (by simp) (by simp [Value.ownBlock])⟩
theorem clone_by_empty (ad : Addr) (c : Nat) (w : World) :
    Calls Tryz.prog 71 #[.slice (some ad) 0 c] w fun e w' => ∃ v, e = .returned v ∧ w'.ownsRow w.heap.size 5 1 v 0 [] ∧ Below w.heap.size w w' := by
  obtain ⟨i0, hi, hz0, hz1, hz2⟩ := info_of3 by_info
  have heq := fun W : World => Lib.run_eql_slice_nil (P := Tryz.prog) W 24 5 (some ad) 0 c 0 0 Tryz.underlying24
  go_enter Tryz.func71, Tryz.ntmps71
  go_wp2_with (at_builtin; refine wpList_append_own_at (w := w.alloc (.cells #[] 5)) rfl _ _ 24 rfl w.heap.size 5 i0 (.int .u8 0) 1 1 Tryz.underlying24 hi hz0 hz1 hz2 rfl (by omega) _ 0 [] rfl ?c1 ad 0 c [] rfl (by simp) (by simp) (by simp) ?c4 ?c5 ?c6 ?c7)
  case c1 => exact World.ownsRow_made w #[] 0 (Nat.le_refl _) (by simp [maxLen]) (by simp)
  case c4 => unfold maxLen; omega
  case c5 => omega
  case c6 => simp
  case c7 =>
    intro v' w' hown hg
    intros
    have HO := Lib.hid hown
    clear hown
    go_wp2
    go_ret
    refine ⟨v', rfl, by simpa using HO.out, ((Below.refl _ _).alloc (Nat.le_refl _) _).grown hg (by simp) (by simp [Value.ownBlock])⟩
theorem clone_by_nil (w : World) (c : Nat) : Calls Tryz.prog 71 #[.slice none 0 c] w fun e w' => e = .returned (.slice none 0 0) ∧ w = w' := by
  have heq := fun W : World => Lib.run_eql_slice_nil (P := Tryz.prog) W 24 5 none 0 c 0 0 Tryz.underlying24
  go_enter Tryz.func71, Tryz.ntmps71
  go_wp2
  go_ret
  exact ⟨rfl, rfl⟩

theorem clone_fi_c (l : List Fi) (hne : l ≠ []) (hl : l.length ≤ 1000000000) (h : List (List AV)) : Contract Tryz.prog 56 [.sl 2 (enc fiC l) none .no] h (.bsl h.length 0 2 l.length) (h ++ [(enc fiC l).flatten]) [] := by
  refine contract_newbox (by kernel_rfl) (fun c hc => ?_) fun G w vs hW hvs => ?_
  · obtain ⟨e, he, hce⟩ := List.mem_flatten.1 hc
    unfold enc at he
    obtain ⟨x, _, rfl⟩ := List.mem_map.1 he
    simp [fiC] at hce
    rcases hce with rfl | rfl <;> rfl
  · obtain ⟨x, rfl, hx⟩ := hvs.one
    obtain ⟨b, o, cap, us, rfl, h1, h2, h3, h4, h5, h6⟩ := flat_sees (by omega) hx (by simpa [enc] using hne) hW
    have hlen : (enc fiC l).length = l.length := by simp
    rw [hlen] at h2 h3 ⊢
    refine (clone_fi_any b o l.length cap us w h2 h5 h1 h4 hl).mono fun e w' he => ?_
    obtain ⟨v, rfl, ⟨_, hown⟩, hb⟩ := he
    rcases hown with ⟨_, hn⟩ | ⟨g, cap2, cur, rfl, hg, hrow, hcap, hmax, hcs, htake⟩
    · exact absurd (List.eq_nil_of_length_eq_zero hn) hne
    · refine ⟨g, cap2, us, rfl, hg, (Array.getElem?_eq_some_iff.1 hrow).1, hcap, ⟨hmax, fun j hj => ⟨by rw [cell_of_row _ _ j cur _ (0, 0) hrow, Array.getElem?_eq_getElem (by omega)]; rfl, by simp [World.frozen?, hrow]⟩⟩, by rw [h2, h3], h4, h6, fun j x hj => ?_, hb⟩
      rw [← htake, List.getElem?_take] at hj
      split at hj
      · refine ⟨by rw [cell_of_row _ _ j cur _ (0, 0) hrow, ← Array.getElem?_toList]; exact hj, ?_⟩
        simp [World.frozen?, hrow]
      · cases hj
theorem clone_fi0_c (h : List (List AV)) : Contract Tryz.prog 56 [.sl 2 [] none .no] h (.sl 2 [] none .no) h [] := by
  refine contract_blank (by kernel_rfl) rfl fun G w vs hW hvs => ?_
  obtain ⟨x, rfl, hx⟩ := hvs.one
  cases hx with
  | sl _ _ _ _ a len cap u hlen hn hk hcap hm =>
    have hl0 : len = 0 := hlen
    subst hl0
    have empty : ∀ (G : Ghost) (a : Option Addr) (cap : Nat), (a = none → cap = 0) → cap ≤ maxLen → Sees G (.sl 2 [] none .no) (.slice a 0 cap) := fun G a cap h1 h2 =>
      .sl 2 [] none .no a 0 cap (fun _ _ => undef) rfl ⟨fun h => ⟨h1 h, rfl⟩, fun h => (by cases h), fun h => (by cases h)⟩ (fun e h => by cases h) (Nat.zero_le _) h2 (fun h => by cases h) (fun h => by simp at h) (fun i e h => by simp at h) (fun i j h => by simp at h)
    cases a with
    | none =>
      refine (clone_fi_nil w cap).mono fun e w' he => ?_
      obtain ⟨rfl, rfl⟩ := he
      exact ⟨_, rfl, empty G none 0 (fun _ => rfl) (Nat.zero_le _), Below.refl _ _⟩
    | some ad =>
      refine (clone_fi_empty ad cap w).mono fun e w' he => ?_
      obtain ⟨v, rfl, ⟨_, hown⟩, hb⟩ := he
      rcases hown with ⟨rfl, _⟩ | ⟨g, cap2, cur, rfl, hg, hrow, hcap2, hmax, hcs, htake⟩
      · exact ⟨_, rfl, empty G none 0 (fun _ => rfl) (Nat.zero_le _), hb⟩
      · exact ⟨_, rfl, empty G _ cap2 (fun h => by cases h) hmax, hb⟩

theorem clone_cell_c (l : List Cl) (hne : l ≠ []) (hl : l.length ≤ 1000000000) (h : List (List AV)) : Contract Tryz.prog 70 [.sl 2 (enc cellC l) none .no] h (.bsl h.length 0 2 l.length) (h ++ [(enc cellC l).flatten]) [] := by
  refine contract_newbox (by kernel_rfl) (fun c hc => ?_) fun G w vs hW hvs => ?_
  · obtain ⟨e, he, hce⟩ := List.mem_flatten.1 hc
    unfold enc at he
    obtain ⟨x, _, rfl⟩ := List.mem_map.1 he
    simp [cellC] at hce
    rcases hce with rfl | rfl <;> rfl
  · obtain ⟨x, rfl, hx⟩ := hvs.one
    obtain ⟨b, o, cap, us, rfl, h1, h2, h3, h4, h5, h6⟩ := flat_sees (by omega) hx (by simpa [enc] using hne) hW
    have hlen : (enc cellC l).length = l.length := by simp
    rw [hlen] at h2 h3 ⊢
    refine (clone_cell_any b o l.length cap us w h2 h5 h1 h4 hl).mono fun e w' he => ?_
    obtain ⟨v, rfl, ⟨_, hown⟩, hb⟩ := he
    rcases hown with ⟨_, hn⟩ | ⟨g, cap2, cur, rfl, hg, hrow, hcap, hmax, hcs, htake⟩
    · exact absurd (List.eq_nil_of_length_eq_zero hn) hne
    · refine ⟨g, cap2, us, rfl, hg, (Array.getElem?_eq_some_iff.1 hrow).1, hcap, ⟨hmax, fun j hj => ⟨by rw [cell_of_row _ _ j cur _ (0, 0) hrow, Array.getElem?_eq_getElem (by omega)]; rfl, by simp [World.frozen?, hrow]⟩⟩, by rw [h2, h3], h4, h6, fun j x hj => ?_, hb⟩
      rw [← htake, List.getElem?_take] at hj
      split at hj
      · refine ⟨by rw [cell_of_row _ _ j cur _ (0, 0) hrow, ← Array.getElem?_toList]; exact hj, ?_⟩
        simp [World.frozen?, hrow]
      · cases hj
theorem clone_cell0_c (h : List (List AV)) : Contract Tryz.prog 70 [.sl 2 [] none .no] h (.sl 2 [] none .no) h [] := by
  refine contract_blank (by kernel_rfl) rfl fun G w vs hW hvs => ?_
  obtain ⟨x, rfl, hx⟩ := hvs.one
  cases hx with
  | sl _ _ _ _ a len cap u hlen hn hk hcap hm =>
    have hl0 : len = 0 := hlen
    subst hl0
    have empty : ∀ (G : Ghost) (a : Option Addr) (cap : Nat), (a = none → cap = 0) → cap ≤ maxLen → Sees G (.sl 2 [] none .no) (.slice a 0 cap) := fun G a cap h1 h2 =>
      .sl 2 [] none .no a 0 cap (fun _ _ => undef) rfl ⟨fun h => ⟨h1 h, rfl⟩, fun h => (by cases h), fun h => (by cases h)⟩ (fun e h => by cases h) (Nat.zero_le _) h2 (fun h => by cases h) (fun h => by simp at h) (fun i e h => by simp at h) (fun i j h => by simp at h)
    cases a with
    | none =>
      refine (clone_cell_nil w cap).mono fun e w' he => ?_
      obtain ⟨rfl, rfl⟩ := he
      exact ⟨_, rfl, empty G none 0 (fun _ => rfl) (Nat.zero_le _), Below.refl _ _⟩
    | some ad =>
      refine (clone_cell_empty ad cap w).mono fun e w' he => ?_
      obtain ⟨v, rfl, ⟨_, hown⟩, hb⟩ := he
      rcases hown with ⟨rfl, _⟩ | ⟨g, cap2, cur, rfl, hg, hrow, hcap2, hmax, hcs, htake⟩
      · exact ⟨_, rfl, empty G none 0 (fun _ => rfl) (Nat.zero_le _), hb⟩
      · exact ⟨_, rfl, empty G _ cap2 (fun h => by cases h) hmax, hb⟩
/-- Bytes. -/
theorem clone_by_c (xs : List UInt8) (hl : xs.length ≤ 140737488351232) (h : List (List AV)) : Contract Tryz.prog 71 [.sl 1 (bytesE xs) none .no] h (.sl 1 (bytesE xs) none (.own .res)) h [] := by
  refine contract_made (E := 5) (by kernel_rfl) fun G w vs hW hvs => ?_
  obtain ⟨x, rfl, hx⟩ := hvs.one
  obtain ⟨a, cap, rfl, hc0, hcap, hmax, hat⟩ := hx.bytes hW
  cases a with
  | none =>
    have hn : xs = [] := by
      cases xs with
      | nil => rfl
      | cons x l => obtain ⟨_, _, hh, _⟩ := hat (by simp); cases hh
    subst hn
    refine (clone_by_nil w cap).mono fun e w' he => ?_
    obtain ⟨rfl, rfl⟩ := he
    exact ⟨_, rfl, World.ownsRow_nil _ _ _ _, Below.refl _ _⟩
  | some ad =>
    by_cases hn : xs = []
    · subst hn
      refine (clone_by_empty ad cap w).mono fun e w' he => ?_
      obtain ⟨v, rfl, hown, hb⟩ := he
      exact ⟨v, rfl, hown, hb⟩
    · obtain ⟨b, off, e1, hblt, hcell⟩ := hat (List.length_pos_iff.2 hn)
      injection e1 with e1
      subst e1
      refine (clone_by_any b off xs.length cap (vals xs) w (by simp [vals]) (fun j u hu => by
        have hj : j < xs.length := by
          have := (List.getElem?_eq_some_iff.1 hu).1; simpa [vals] using this
        rw [vals_at xs j hj] at hu
        injection hu with hu
        subst hu
        exact hcell j hj) hblt (vals_one xs) hl).mono fun e w' he => ?_
      obtain ⟨v, rfl, hown, hb⟩ := he
      exact ⟨v, rfl, hown, hb⟩
end Go.Proofs.YthielckgianmgaaGreatDoor.Ax
namespace Go.Proofs.YthielckgianmgaaGreatDoor.Ax
open Go.RowKit Go By Nm Sc Dg
set_option linter.unusedSimpArgs false
set_option linter.unusedVariables false
set_option maxRecDepth 10000

theorem leqC_same {i : Nat} : ∀ (F : List AV) (j : Nat), leqC i j F F
  | [], _ => trivial
  | x :: r, j => ⟨leqV_refl _ _, leqC_same r (j + 1)⟩
theorem leqC_put {i : Nat} : ∀ (F : List AV) (j p : Nat) (a b : AV), F[p]? = some b → LeqV (.cell i (j + p)) a b → leqC i j (F.set p a) F
  | x :: r, j, 0, a, b, h, hv => by
    simp at h
    subst h
    exact ⟨hv, leqC_same r (j + 1)⟩
  | x :: r, j, p + 1, a, b, h, hv => ⟨leqV_refl _ _, leqC_put r (j + 1) p a b (by simpa using h) (by rw [show j + 1 + p = j + (p + 1) by omega]; exact hv)⟩
theorem flat_getb : ∀ (l : List Cl) (i : Nat) (hi : i < l.length), (enc cellC l).flatten[i * 2 + 1]? = some (.sl 1 (bytesE l[i].2) none .no)
  | x :: l, 0, _ => by simp [cellC]
  | x :: l, i + 1, hi => by
    have hi' : i < l.length := by simpa using hi
    have ih := flat_getb l i hi'
    have hc : (cellC x).length = 2 := rfl
    rw [enc_cons, List.flatten_cons, List.getElem?_append_right (by rw [hc]; omega), show (i + 1) * 2 + 1 - (cellC x).length = i * 2 + 1 by rw [hc]; omega, ih]
    rfl
theorem flat_ltB (n : Nat) : ∀ l : List Cl, ltL n (enc cellC l).flatten
  | [] => trivial
  | x :: l => by rw [enc_cons, List.flatten_cons, ltL_append]; exact ⟨⟨trivial, ltLL_bytes n _, trivial⟩, flat_ltB n l⟩
theorem leqH_front {a b : List (List AV)} : ∀ (h : List (List AV)) (k : Nat), leqH (k + h.length) a b → leqH k (h ++ a) (h ++ b)
  | [], k, hh => by simpa using hh
  | c :: r, k, hh => ⟨.inl rfl, leqH_front r (k + 1) (by simp only [List.length_cons] at hh; rw [show k + 1 + r.length = k + (r.length + 1) by omega]; exact hh)⟩
end Go.Proofs.YthielckgianmgaaGreatDoor.Ax
