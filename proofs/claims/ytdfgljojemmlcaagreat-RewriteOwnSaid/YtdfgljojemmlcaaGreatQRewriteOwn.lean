/- whatever statements there are, whatever names have them, whatever the server has: at most two messages of the pooler's own are told ahead of the client's, a Close and a Parse; their entries are hidden, the client's is not -/
import Derived.Test.YtdfgljojemmlcaaGreatQAxRo
import Derived.Test.YtdfgljojemmlcaaGreatQAxUd
import Derived.Test.YtdfgljojemmlcaaGreatQAxTc
import Derived.Test.YtdfgljojemmlcaaGreatRows
import Derived.Test.YtdfgljojemmlcaaGreatQElems
import Derived.Test.YtdfgljojemmlcaaGreatQAxXr
import Derived.WalkKit
import Derived.ProofKit
import Derived.OpenShut
import Derived.ShutString
import Derived.ChangeOld
import Derived.Below
set_option linter.unusedSimpArgs false
set_option linter.unusedVariables false
namespace Go.Proofs.YtdfgljojemmlcaaGreat.Ax
open Go.RowKit Go By
set_option maxRecDepth 10000
theorem upd_boxes_mem {R : Rg} {id k i x : Nat} : x ∈ (R.upd id k).touch i ↔ x ∈ R.touch i := by rw [Rg.upd_touch]
theorem put_touch {R : Rg} {m : Sm} {nb i x : Nat} (h : x ∈ (R.put m nb).touch i) : x ∈ R.touch i \/ x = nb := by
 unfold Rg.put at h
 by_cases hk : keyable m = true
 ·rw [if_pos hk] at h
  unfold Rg.putS at h
  cases hs : R.findS m with
  | some s => rw [hs] at h; exact .inl (upd_boxes_mem.1 h)
  | none =>
   rw [hs] at h
   have h := upd_boxes_mem.1 h
   have h : x ∈ i :: R.a :: R.b :: (R.l ++ [(⟨R.last + 1, 0, m, nb⟩ : Sl)]).map Sl.box := h
   simp only [List.map_append, List.mem_cons, List.mem_append, List.map_cons, List.map_nil, List.not_mem_nil, or_false] at h
   unfold Rg.touch
   simp only [List.mem_cons]
   rcases h with h | h | h | h | h
   ·exact .inl (.inl h)
   ·exact .inl (.inr (.inl h))
   ·exact .inl (.inr (.inr (.inl h)))
   ·exact .inl (.inr (.inr (.inr h)))
   ·exact .inr h
 ·rw [if_neg hk] at h; exact .inl h
end Go.Proofs.YtdfgljojemmlcaaGreat.Ax
namespace Go.Proofs.YtdfgljojemmlcaaGreat.Ax
open Go.RowKit Go By Sc Dg
set_option maxRecDepth 10000
def parE (m : Fm) (id : Int) (c : Oc) : En := ⟨2, false, [], [], [⟨true, m.name, id⟩], if m.name = [] then [⟨false, [], 0⟩] else [], [c], []⟩
def useE (m : Fm) (id : Int) : En := ⟨kindI m.kind m.what, false, serverL id, m.name, [], [], [⟨3, id⟩], []⟩
def stM (m : Fm) : Sm := ⟨m.text, m.oids⟩
def bk3 : Bk := ⟨51, 0, [], [], [], 0, 0, [], [], [], []⟩
def closeE (m : Fm) : En := ⟨10, false, [], [], [⟨false, m.name, 0⟩], [], [], bytesB [bk3]⟩
def plnE (m : Fm) : List En := if m.kind = 72 then [] else if m.kind = 81 then [⟨9, false, [], [], [⟨false, [], 0⟩], [], [], []⟩] else [⟨kindI m.kind m.what, false, [], [], [], [], [], []⟩]
def parOut (spec : List Int) (most : Int) (R : Rg) (o : Option Int) (m : Fm) : List Fm × List En :=
 if o.isSome = true /\ m.name ≠ [] then ([named m dupN], [renE m dupN])
 else if R.putId (stM m) = 0 then ([], [])
 else if spec.contains (R.putId (stM m) : Int) = true then ([named m []], [parE m (R.putId (stM m)) ⟨3, R.putId (stM m)⟩])
 else (roomF spec most ++ [named m (serverL (R.putId (stM m)))], roomE spec most ++ [parE m (R.putId (stM m)) ⟨1, R.putId (stM m)⟩])
def useOut (spec : List Int) (most : Int) (R : Rg) (o : Option Int) (m : Fm) : List Fm × List En := match o with
 | none => ([named m noneN], [renE m noneN])
 | some id => (readyF spec most id (stOf (R.find id)) ++ [named m (serverL id)], readyE spec most id ++ [useE m id])
def isUse (m : Fm) : Prop := m.kind = 66 \/ (m.kind = 68 /\ m.what = 83)
instance (m : Fm) : Decidable (isUse m) := by unfold isUse; infer_instance
def doOut (spec : List Int) (most : Int) (R : Rg) (o : Option Int) (m : Fm) : List Fm × List En :=
 if needsF m = false then ([], [])
 else if m.kind = 80 then parOut spec most R o m
 else if isUse m then useOut spec most R o m
 else if m.kind = 67 /\ m.what = 83 then ([], [closeE m])
 else ([m], plnE m)
def parReg (R : Rg) (o : Option Int) (m : Fm) (nb : Nat) : Rg := if o.isSome = true /\ m.name ≠ [] then R else R.put (stM m) nb
def doReg (spec : List Int) (most : Int) (R : Rg) (o : Option Int) (m : Fm) (nb : Nat) : Rg :=
 if needsF m = false then R
 else if m.kind = 80 then rfR (parReg R o m nb) (allOp (parOut spec most R o m).2)
 else if isUse m then rfR R (allOp (useOut spec most R o m).2)
 else R
def DoesJ (f : FuncId) (args : List AV) (lo : Nat) (h : List (List AV)) (i : Nat) (R : Rg) (F : List Fm) (E : List En) (R' : Rg) : Prop :=
 ∃ h', Contract Tryz.prog f args h (.tup [.sl 10 (enc fmC F) none .no, .sl 8 (enc enC E) none .no]) h' (R.touch i) /\ RegAt lo h' i R' /\ h.length <= h'.length /\ (∀ k < h.length, k ∉ R.touch i -> h'[k]? = h[k]?) /\ (plainH h -> plainH h') /\ ∀ x ∈ R'.touch i, x ∈ R.touch i \/ h.length <= x
theorem RegAt.touch_lt0 {lo : Nat} {h : List (List AV)} {i : Nat} {R : Rg} (hr : RegAt lo h i R) : ∀ k ∈ R.touch i, k < h.length := fun k hk => by
 unfold Rg.touch at hk
 simp only [List.mem_cons] at hk
 rcases hk with rfl | rfl | rfl | hk
 ·exact hr.i_lt
 ·exact (List.getElem?_eq_some_iff.1 hr.recs).1
 ·exact (List.getElem?_eq_some_iff.1 hr.ids).1
 ·obtain ⟨s, hs, rfl⟩ := List.mem_map.1 hk; exact hr.box_lt hs
section
variable {h : List (List AV)} {lo : Nat} {R : Rg} {j : Jb}
theorem jtold_d (hr : RegAt lo h j.i R) {n : Nat} (ho : RgOk n R) (hi2 : j.it < h.length) {fv ev : AV} {F : List Fm} {E : List En} (hf : LsV fmC 10 h fv F) (he : LsV enC 8 h ev E) (hfe : ∀ q ∈ kwV fv, q ∉ kwV ev) (hfr : ∀ q ∈ kwV fv, q ∉ R.touch j.i) (her : ∀ q ∈ kwV ev, q ∉ R.touch j.i)
  (hF : F.length <= 100) (hE : E.length <= 100) (name : List UInt8) (e : En) (hn : n + (allOp (E ++ [e])).length <= 1000) :
  ∃ h', Contract Tryz.prog 61 [.agg (jbC j), .v (.string (strB name)), fv, ev, .agg (enC e)] h (.tup [.sl 10 (enc fmC (F ++ [named j.m name])) none .no, .sl 8 (enc enC (E ++ [e])) none .no]) h' (kwV fv ++ (kwV ev ++ R.touch j.i)) /\
   RegAt lo h' j.i (rfR R (allOp (E ++ [e]))) /\ h'.length = h.length /\ (∀ q, q ∉ kwV fv -> q ∉ kwV ev -> q ∉ R.touch j.i -> h'[q]? = h[q]?) /\ (plainH h -> plainH h') /\ (rfR R (allOp (E ++ [e]))).touch j.i = R.touch j.i := by
 have ct := jtold_c hr ho hi2 hf he hfe hfr her hF hE name e hn
 have hkl := killV_len ev h
 have hr1 : RegAt lo (killV ev h) j.i R := hr.keep0 (fun q hq => killV_get fun hq2 => her q hq2 hq) (by rw [hkl]; exact killV_lt hr.lt)
 have hok := rf_ok (allOp (E ++ [e])) hr1 ho hn
 refine ⟨_, ct, hok.at_.keep0 (fun q hq => killV_get fun hq2 => ?_) ?_, by rw [killV_len, hok.len, hkl], fun q h1 h2 h3 => ?_, fun hp => killV_plain (hok.plain (killV_plain hp)), hok.touch⟩
 ·rw [hok.touch] at hq; exact hfr q hq2 hq
 ·rw [killV_len]; exact killV_lt hok.at_.lt
 ·rw [killV_get h1, hok.get q h3, killV_get h2]
theorem jfail_d (hr : RegAt lo h j.i R) {n : Nat} (ho : RgOk n R) (hn : n <= 1000) (hi2 : j.it < h.length) (name : List UInt8) :
  Contract Tryz.prog 56 [.agg (jbC j), .v (.string (strB name))] h (.tup [.sl 10 (enc fmC [named j.m name]) none .no, .sl 8 (enc enC [renE j.m name]) none .no]) h (R.touch j.i) := by
 have hi := hr.i_lt
 refine contract_of k56 mixed (by simp [c56]) fun hh hargs => ?_
 have hJ := jbC_lt (j := j) (n := h.length + 1) (by omega) (by omega)
 have hr1 := hr.app [jbC j] (by simpa using hJ)
 have ht : h.length ∉ R.touch j.i := fun hq => by have := hr.touch_lt0 _ hq; omega
 have ct := jtold_c hr1 ho (by simp; omega) (lsV_nil fmC 10 _) (lsV_nil enC 8 _) (by simp [kwV]) (by simp [kwV]) (by simp [kwV]) (by simp) (by simp) name (renE j.m name) (by simpa [allOp, renE] using hn)
 have e1 : (rfP R (killV (.sl 0 [] (some true) .exact) (h ++ [jbC j])) (allOp ([] ++ [renE j.m name]))).2 = h ++ [jbC j] := rfl
 rw [e1] at ct
 have e2 : killV (.sl 0 [] (some true) .exact) (h ++ [jbC j]) = h ++ [jbC j] := rfl
 rw [e2] at ct
 simp only [List.nil_append, kwV] at ct
 simp [c56]
 refine xcall_self (by simp) (jrenamed_c (j := j) name (by simp; omega) (by simp; omega)) ?_
 simp
 refine xcall_self (by simp) ct ?_
 simp [hh, ht]
 exact fun _ h _ => h
end
theorem room_ops (spec : List Int) (most : Int) : (allOp (roomE spec most)).length <= 1 := by
 unfold roomE; split <;> simp [allOp, hidE]
section
variable {h : List (List AV)} {lo lo2 : Nat} {R : Rg} {j : Jb} {T : Tb}
theorem stM_short {m : Fm} (hm : FmSh m) : (keyB (stM m)).length <= 100000 := keyB_size (by
 have h1 := hm.text
 have h2 := hm.oids
 unfold fewK stM
 simp
 omega)
def parE0 (m : Fm) (id : Int) : En := { parE m id ⟨0, 0⟩ with cache := [] }
theorem parE0_cell (m : Fm) (id : Int) : enC (parE0 m id) = [.v (.int .i64 2), .v (.bool false), .v (.string (strB [])), .v (.string (strB [])), .sl 3 [toC ⟨true, m.name, id⟩] none .no, .sl 3 (if m.name = [] then [toC ⟨false, [], 0⟩] else []) none .no, .sl 2 [] none .no, .sl 1 [] none .no] := by
 unfold parE0 parE
 by_cases hn : m.name = []
 ·simp [enC_mk, hn]
 ·simp [enC_mk, hn]
theorem leqH_take2 {X : List (List AV)} (x : List AV) {y : List AV} (hxy : leqC X.length 0 x y) : leqH 0 (X ++ [x]) (X ++ [y]) := leqH_front X 0 ⟨.inr (by rw [Nat.zero_add]; exact hxy), trivial⟩
set_option maxHeartbeats 2000000 in
theorem jparse_d (hr : RegAt lo h j.i R) {n : Nat} (ho : RgOk n R) (hn : n + 10 <= 1000) (ht : TbAt lo2 h j.it T) (hl : j.l.length <= 1000000) (hg : ∀ x ∈ j.l, x.good.length <= 1000000) (hm : FmSh j.m) (hsp : j.spec.length <= 1000000)
  {o : Option Int} (hoo : lookO j.m.name (T.get j.m.name) (opsOf j.l) = o) :
  DoesJ 28 [.agg (jbC j)] lo h j.i R (parOut j.spec j.most R o j.m).1 (parOut j.spec j.most R o j.m).2 (rfR (parReg R o j.m (h.length + 3)) (allOp (parOut j.spec j.most R o j.m).2)) := by
 have hi := hr.i_lt
 have hi2 := ht.i_lt
 have hJ := jbC_lt (j := j) (n := h.length + 1) (by omega) (by omega)
 have hr1 := hr.app [jbC j] (by simpa using hJ)
 have htl : h.length ∉ R.touch j.i := fun hq => by have := hr.touch_lt0 _ hq; omega
 have hkn := jknown_c (ht.app [jbC j] (by simpa using hJ)) hl hg (by simp; omega)
 rw [hoo] at hkn
 by_cases hA : o.isSome = true /\ j.m.name ≠ []
 ·have e1 : parOut j.spec j.most R o j.m = ([named j.m dupN], [renE j.m dupN]) := if_pos hA
  have e2 : parReg R o j.m (h.length + 3) = R := if_pos hA
  rw [e1, e2]
  refine ⟨h, ?_, hr, Nat.le_refl _, fun _ _ _ => rfl, fun h => h, fun x hx => .inl hx⟩
  refine contract_of k28 mixed (by simp [c28]) fun hh hargs => ?_
  simp [c28]
  refine xcall_self (by simp) hkn ?_
  obtain ⟨x, rfl⟩ := Option.isSome_iff_exists.1 hA.1
  have hne := hA.2
  simp [hne]
  refine xcall_self (by simp) (ndup_c _) ?_
  simp
  refine xcall_self (by simp) (jfail_d hr1 ho (by omega) (by simp; omega) dupN) ?_
  simp [hh, htl]
  exact fun _ h _ => h
 ·have e0 : parReg R o j.m (h.length + 3) = R.put (stM j.m) (h.length + 3) := if_neg hA
  rw [e0]
  obtain ⟨h1, ct1, hR1, hl1, hk1, hp1⟩ := gput_c hr1 ho (by omega) (stM j.m) (by have := hm.oids; show j.m.oids.length <= _; omega) (stM_short hm)
  rw [show (h ++ [jbC j]).length + 2 = h.length + 3 by simp] at hR1
  rw [List.length_append, List.length_singleton] at hl1 hk1
  have hj1 : h1[h.length]? = some (jbC j) := by rw [hk1 _ (by omega) htl]; simp
  have hks : ∀ k < h.length, k ∉ R.touch j.i -> h1[k]? = h[k]? := fun k hk hk2 => by rw [hk1 k (by omega) hk2]; exact List.getElem?_append_left hk
  have hps : plainH h -> plainH h1 := fun hp => hp1 (plainH_append hp fun x hx c hc => by rw [List.mem_singleton.1 hx] at hc; exact jbC_plain j c hc)
  have htc : ∀ x ∈ (R.put (stM j.m) (h.length + 3)).touch j.i, x ∈ R.touch j.i \/ h.length <= x := fun x hx => by
   rcases put_touch hx with h | h
   ·exact .inl h
   ·exact .inr (by omega)
  have ho1 := ho.put (stM j.m) ⟨by have := hm.text; show j.m.text.length <= _; omega, by have := hm.oids; show j.m.oids.length <= _; omega⟩ (h.length + 3)
  have hT : (∀ a, a ∈ R.touch j.i -> a < h.length -> a ∈ R.touch j.i) = True := eq_true fun _ h _ => h
  have e1 : ∀ p, (if o.isSome = true /\ j.m.name ≠ [] then ([named j.m dupN], [renE j.m dupN]) else p) = p := fun p => if_neg hA
  unfold parOut
  rw [e1]
  by_cases hid : (R.putId (stM j.m) : Int) = 0
  ·rw [if_pos (by omega)]
   refine ⟨h1, ?_, hR1, by omega, hks, hps, htc⟩
   refine contract_cut (XCode.cuts [false, true, false, false, false, true] c28.code) k28 rfl mixed (by simp [c28]) fun hh hargs => ?_
   have hh1 := ltLL_mono (Nat.le_add_right h.length 1) hh
   have hh2 : ltLL (h1.length + 1) h1 := ltLL_mono (Nat.le_add_right _ _) hR1.lt
   simp [c28]
   refine xseq_cut ⟨[(1, .box h.length 0)], [], h ++ [jbC j], []⟩ ?_ ?_
   ·simp
    refine xcall_self (by simp) hkn ?_
    cases o with
    | none => simp [Leq, hh1, hJ, leqH_refl]
    | some x =>
     have hne : j.m.name = [] := Classical.byContradiction fun hne => hA ⟨rfl, hne⟩
     simp [hne, Leq, hh1, hJ, leqH_refl]
   simp
   refine xcall_of ct1 (by simp [stM, smC_mk]) (by simp) ?_
   have hid2 : ((R.putId (stM j.m) : Int) == 0) = true := by simpa using hid
   have htk : h1.take h1.length = h1 := List.take_of_length_le (Nat.le_refl _)
   simp [hid2, hj1, hR1.lt, leqH_refl, htk, hT]
   omega
  rw [if_neg (by omega)]
  have hset : ∀ c : Oc, (enC (parE0 j.m (R.putId (stM j.m)))).set 6 (.sl 2 [ocC c] none .no) = enC (parE j.m (R.putId (stM j.m)) c) := fun _ => rfl
  have hid2 : ((R.putId (stM j.m) : Int) == 0) = false := by simpa using hid
  have hi1 : j.i < h1.length := by omega
  have n1 : h.length ∉ (R.put (stM j.m) (h.length + 3)).touch j.i := fun hq => by
   rcases put_touch hq with h | h
   ·exact htl h
   ·omega
  have n2 : h1.length ∉ (R.put (stM j.m) (h.length + 3)).touch j.i := fun hq => by have := hR1.touch_lt0 _ hq; omega
  have hTp : (∀ a, a ∈ (R.put (stM j.m) (h.length + 3)).touch j.i -> a < h.length -> a ∈ R.touch j.i) = True := eq_true fun a ha hl => by
   rcases put_touch ha with h | h
   ·exact h
   ·omega
  have hleq : ∀ xs, (h1 ++ xs).length = h1.length + xs.length := fun xs => List.length_append
  by_cases hc : j.spec.contains (R.putId (stM j.m) : Int) = true
  ·rw [if_pos hc]
   obtain ⟨h2, ct2, q1, q2, q3, q4, q5⟩ := jtold_d (hR1.app [enC (parE j.m (R.putId (stM j.m)) ⟨3, R.putId (stM j.m)⟩)] (by simp)) ho1 (by simp; omega) (lsV_nil fmC 10 _) (lsV_nil enC 8 _) (by simp [kwV]) (by simp [kwV]) (by simp [kwV]) (by simp) (by simp) [] (parE j.m (R.putId (stM j.m)) ⟨3, R.putId (stM j.m)⟩) (by simp [allOp, parE]; omega)
   simp only [List.nil_append, kwV] at ct2 q1 q3 q5
   rw [hleq, List.length_singleton] at q2
   refine ⟨h2, ?_, q1, by omega, fun k hk hk2 => ?_, fun hp => q4 (plainH_append (hps hp) fun x hx c hc => by rw [List.mem_singleton.1 hx] at hc; exact enC_plain1 _ c hc), fun x hx => htc x (by rw [q5] at hx; exact hx)⟩
   ·refine contract_cut (XCode.cuts [false, true, false, false, false, true] c28.code) k28 rfl mixed (by simp [c28]) fun hh hargs => ?_
    have hh1 := ltLL_mono (Nat.le_add_right h.length 1) hh
    have hh2 : ltLL (h1.length + 1) h1 := ltLL_mono (Nat.le_add_right _ _) hR1.lt
    simp [c28]
    refine xseq_cut ⟨[(1, .box h.length 0)], [], h ++ [jbC j], []⟩ ?_ ?_
    ·simp
     refine xcall_self (by simp) hkn ?_
     cases o with
     | none => simp [Leq, hh1, hJ, leqH_refl]
     | some x =>
      have hne : j.m.name = [] := Classical.byContradiction fun hne => hA ⟨rfl, hne⟩
      simp [hne, Leq, hh1, hJ, leqH_refl]
    simp
    refine xcall_of ct1 (by simp [stM, smC_mk]) (by simp) ?_
    have hg1 : ∀ xs : List (List AV), (h1 ++ xs)[h.length]? = some (jbC j) := fun xs => by rw [List.getElem?_append_left (by omega)]; exact hj1
    have hm3 : (R.putId (stM j.m) : Int) ∈ j.spec := by simpa using hc
    have hle2 : h.length <= h1.length + 1 := by omega
    simp [hid2, hj1]
    refine xseq_cut ⟨[(1, .box h.length 0), (6, .v (.int .i64 (R.putId (stM j.m) : Int))), (7, .box h1.length 0)], [], h1 ++ [enC (parE0 j.m (R.putId (stM j.m)))], R.touch j.i⟩ ?_ ?_
    ·by_cases hne : j.m.name = []
     ·simp [hne, hg1]
      refine xcall_self (by simp) (deletion_c [] _) ?_
      simp [Leq, hh2, hT, parE0_cell, hne, hg1, hle2]
      refine ⟨leqH_take2 _ (by simp [leqC, LeqV, toC_mk]), by omega, fun _ => by omega⟩
     ·simp [hne, Leq, hh2, hT, parE0_cell, hg1, hle2]
      refine ⟨leqH_take2 _ (by simp [leqC, LeqV, toC_mk]), by omega, fun _ => by omega⟩
    simp [hg1]
    refine xcall_self (by simp) (jhas_c hsp _) ?_
    simp [hm3]
    refine xcall_self (by simp) (wops_c 3 _ _) ?_
    simp [hset, hg1]
    refine xcall_self (by simp) ct2 ?_
    have htk : h2.take (h1.length + 1) = h2 := List.take_of_length_le (by omega)
    have hlt := q1.lt
    rw [q2] at hlt
    simp [hlt, leqH_refl, htk, q2, hle2]
    exact fun i hi hil => by
     rcases hi with h | h | h
     ·rcases put_touch h with h | h
      ·exact h
      ·omega
     ·omega
     ·exact h
   ·rw [q3 k (by simp) (by simp) (fun hq => by rcases put_touch hq with h | h; exact hk2 h; omega), List.getElem?_append_left (by omega)]
    exact hks k hk hk2
  ·rw [if_neg hc]
   have lF0 := fun x => lsV_lit fmC 10 x (roomF j.spec j.most)
   have lE0 := fun x => lsV_lit enC 8 x (roomE j.spec j.most)
   have hrf := room_fit j.spec j.most
   have hro := room_ops j.spec j.most
   have hroom := jroom_c j.spec hsp j.most (h1 ++ [enC (parE j.m (R.putId (stM j.m)) ⟨1, R.putId (stM j.m)⟩)])
   obtain ⟨h2, ct2, q1, q2, q3, q4, q5⟩ := jtold_d (hR1.app [enC (parE j.m (R.putId (stM j.m)) ⟨1, R.putId (stM j.m)⟩)] (by simp)) ho1 (by simp; omega) (lF0 _).1 (lE0 _).1 (by rw [(lF0 h).2.1]; simp) (by rw [(lF0 h).2.1]; simp) (by rw [(lE0 h).2.1]; simp) (by omega) (by omega) (serverL (R.putId (stM j.m))) (parE j.m (R.putId (stM j.m)) ⟨1, R.putId (stM j.m)⟩) (by rw [show allOp (roomE j.spec j.most ++ [parE j.m (R.putId (stM j.m)) ⟨1, R.putId (stM j.m)⟩]) = allOp (roomE j.spec j.most) ++ [⟨1, R.putId (stM j.m)⟩] by simp [allOp, parE], List.length_append, List.length_singleton]; omega)
   rw [(lF0 h).2.1, (lE0 h).2.1] at ct2 q3
   simp only [List.nil_append] at ct2
   rw [hleq, List.length_singleton] at q2
   have f1 := (lF0 h).1.id
   have f2 := (lF0 h).1.unown
   have f3 := (lF0 h).1.cells
   have g1 := (lE0 h).1.id
   have g2 := (lE0 h).1.unown
   have g3 := (lE0 h).1.cells
   generalize litV 10 fmC (roomF j.spec j.most) = fv at *
   generalize litV 8 enC (roomE j.spec j.most) = ev at *
   refine ⟨h2, ?_, q1, by omega, fun k hk hk2 => ?_, fun hp => q4 (plainH_append (hps hp) fun x hx c hc => by rw [List.mem_singleton.1 hx] at hc; exact enC_plain1 _ c hc), fun x hx => htc x (by rw [q5] at hx; exact hx)⟩
   ·refine contract_cut (XCode.cuts [false, true, false, false, false, true] c28.code) k28 rfl mixed (by simp [c28]) fun hh hargs => ?_
    have hh1 := ltLL_mono (Nat.le_add_right h.length 1) hh
    have hh2 : ltLL (h1.length + 1) h1 := ltLL_mono (Nat.le_add_right _ _) hR1.lt
    simp [c28]
    refine xseq_cut ⟨[(1, .box h.length 0)], [], h ++ [jbC j], []⟩ ?_ ?_
    ·simp
     refine xcall_self (by simp) hkn ?_
     cases o with
     | none => simp [Leq, hh1, hJ, leqH_refl]
     | some x =>
      have hne : j.m.name = [] := Classical.byContradiction fun hne => hA ⟨rfl, hne⟩
      simp [hne, Leq, hh1, hJ, leqH_refl]
    simp
    refine xcall_of ct1 (by simp [stM, smC_mk]) (by simp) ?_
    have hg1 : ∀ xs : List (List AV), (h1 ++ xs)[h.length]? = some (jbC j) := fun xs => by rw [List.getElem?_append_left (by omega)]; exact hj1
    have hm3 : ¬ (R.putId (stM j.m) : Int) ∈ j.spec := by simpa using hc
    have hle2 : h.length <= h1.length + 1 := by omega
    simp [hid2, hj1]
    refine xseq_cut ⟨[(1, .box h.length 0), (6, .v (.int .i64 (R.putId (stM j.m) : Int))), (7, .box h1.length 0)], [], h1 ++ [enC (parE0 j.m (R.putId (stM j.m)))], R.touch j.i⟩ ?_ ?_
    ·by_cases hne : j.m.name = []
     ·simp [hne, hg1]
      refine xcall_self (by simp) (deletion_c [] _) ?_
      simp [Leq, hh2, hT, parE0_cell, hne, hg1, hle2]
      refine ⟨leqH_take2 _ (by simp [leqC, LeqV, toC_mk]), by omega, fun _ => by omega⟩
     ·simp [hne, Leq, hh2, hT, parE0_cell, hg1, hle2]
      refine ⟨leqH_take2 _ (by simp [leqC, LeqV, toC_mk]), by omega, fun _ => by omega⟩
    simp [hg1]
    refine xcall_self (by simp) (jhas_c hsp _) ?_
    simp [hm3]
    refine xcall_self (by simp) (wops_c 1 _ _) ?_
    simp [hset, hg1]
    refine xcall_self (by simp) hroom ?_
    simp [hg1, f1, f2, f3, g1, g2, g3]
    refine xcall_self (by simp) (nserver_any _ _) ?_
    simp [f1, f2, f3, g1, g2, g3]
    refine xcall_self (by simp [f1, g1]) ct2 ?_
    have htk : h2.take (h1.length + 1) = h2 := List.take_of_length_le (by omega)
    have hlt := q1.lt
    rw [q2] at hlt
    simp [hlt, leqH_refl, htk, q2, hle2, n1, n2]
    exact fun i hi hil => by
     rcases hi with h | h | h
     ·rcases put_touch h with h | h
      ·exact h
      ·omega
     ·omega
     ·exact h
   ·rw [q3 k (by simp) (by simp) (fun hq => by rcases put_touch hq with h | h; exact hk2 h; omega), List.getElem?_append_left (by omega)]
    exact hks k hk hk2
end
section
variable {h : List (List AV)} {lo lo2 : Nat} {R : Rg} {j : Jb} {T : Tb}
theorem ready_ops (spec : List Int) (most id : Int) : (allOp (readyE spec most id)).length <= 2 := by
 have := room_ops spec most
 unfold readyE
 split
 ·simp [allOp]
 ·rw [show allOp (roomE spec most ++ [hidE 2 ⟨1, id⟩]) = allOp (roomE spec most) ++ [⟨1, id⟩] by simp [allOp, hidE], List.length_append, List.length_singleton]; omega
theorem st_short {n : Nat} (ho : RgOk n R) (id : Int) : (stOf (R.find id)).text.length <= 1000 /\ (stOf (R.find id)).oids.length <= 1000 := by
 cases hf : R.find id with
 | none => simp [stOf]
 | some s => exact ho.short s (find_mem hf).1
set_option maxHeartbeats 2000000 in
theorem juse_d (hr : RegAt lo h j.i R) {n : Nat} (ho : RgOk n R) (hn : n + 10 <= 1000) (ht : TbAt lo2 h j.it T) (hl : j.l.length <= 1000000) (hg : ∀ x ∈ j.l, x.good.length <= 1000000) (hsp : j.spec.length <= 1000000)
  {o : Option Int} (hoo : lookO j.m.name (T.get j.m.name) (opsOf j.l) = o) :
  DoesJ 29 [.agg (jbC j)] lo h j.i R (useOut j.spec j.most R o j.m).1 (useOut j.spec j.most R o j.m).2 (rfR R (allOp (useOut j.spec j.most R o j.m).2)) := by
 have hi := hr.i_lt
 have hi2 := ht.i_lt
 have hJ := jbC_lt (j := j) (n := h.length + 1) (by omega) (by omega)
 have hr1 := hr.app [jbC j] (by simpa using hJ)
 have htl : h.length ∉ R.touch j.i := fun hq => by have := hr.touch_lt0 _ hq; omega
 have hkn := jknown_c (ht.app [jbC j] (by simpa using hJ)) hl hg (by simp; omega)
 rw [hoo] at hkn
 cases o with
 | none =>
  refine ⟨h, ?_, hr, Nat.le_refl _, fun _ _ _ => rfl, fun h => h, fun x hx => .inl hx⟩
  refine contract_of k29 mixed (by simp [c29]) fun hh hargs => ?_
  simp [c29]
  refine xcall_self (by simp) hkn ?_
  simp
  refine xcall_self (by simp) (nnone_c _) ?_
  simp
  refine xcall_self (by simp) (jfail_d hr1 ho (by omega) (by simp; omega) noneN) ?_
  simp [hh, htl, useOut]
  exact fun _ h _ => h
 | some id =>
  obtain ⟨s, hs⟩ : ∃ s, stOf (R.find id) = s := ⟨_, rfl⟩
  have hss := st_short ho id
  have hget := gget_c hr1 ho id
  rw [hs] at hss hget
  have hJ2 : ltLL (h.length + 2) [jbC j, smC s] := by simp [jbC_lt (j := j) (n := h.length + 2) (by omega) (by omega)]
  have hr2 := hr.app [jbC j, smC s] (by simpa using hJ2)
  obtain ⟨fv, ev, xs, ctr, hrd⟩ := jreadyV_c j.spec hsp j.most id s (by omega) (h ++ [jbC j, smC s])
  have hro := ready_ops j.spec j.most id
  have hrf := ready_fit j.spec j.most id s hss.1 hss.2
  have eo : useOut j.spec j.most R (some id) j.m = (readyF j.spec j.most id s ++ [named j.m (serverL id)], readyE j.spec j.most id ++ [useE j.m id]) := by rw [<- hs]; rfl
  rw [eo]
  have hr3 := hr2.app xs hrd.lt
  obtain ⟨H, hH⟩ : ∃ H, H = h ++ [jbC j, smC s] ++ xs := ⟨_, rfl⟩
  have hHl : H.length = h.length + 2 + xs.length := by rw [hH]; simp; omega
  have hHg : ∀ k < h.length, H[k]? = h[k]? := fun k hk => by rw [hH, List.append_assoc]; exact List.getElem?_append_left hk
  have hHj : ∀ ys : List (List AV), (H ++ ys)[h.length]? = some (jbC j) := fun ys => by rw [hH]; simp
  have l2 : (h ++ [jbC j, smC s]).length = h.length + 2 := by simp
  rw [<- hH] at ctr hr3
  have hf := hrd.f
  have he := hrd.e
  rw [<- hH] at hf he
  have kf := hrd.kf
  have ke := hrd.ke
  rw [l2] at kf ke
  have tlt := hr.touch_lt0
  obtain ⟨h2, ct2, q1, q2, q3, q4, q5⟩ := jtold_d (hr3.app [enC (useE j.m id)] (by simp)) ho (by simp; omega) (hf.app _) (he.app _) (fun q hq => (kf q hq).2) (fun q hq hq2 => by have := (kf q hq).1; have := tlt q hq2; omega) (fun q hq hq2 => by have := ke q hq; have := tlt q hq2; omega) (by omega) (by omega) (serverL id) (useE j.m id)
   (by rw [show allOp (readyE j.spec j.most id ++ [useE j.m id]) = allOp (readyE j.spec j.most id) ++ [⟨3, id⟩] by simp [allOp, useE], List.length_append, List.length_singleton]; omega)
  rw [List.length_append, List.length_singleton] at q2
  have f1 := hf.id
  have f2 := hf.unown
  have f3 := hf.cells
  have f4 := fun m (hm : H.length <= m) => hf.ltV fmE.lt hm
  have g1 := he.id
  have g2 := he.unown
  have g3 := he.cells
  have g4 := fun m (hm : H.length <= m) => he.ltV enE.lt hm
  have hset : (enC (renE j.m (serverL id))).set 6 (.sl 2 [ocC ⟨3, id⟩] none .no) = enC (useE j.m id) := rfl
  refine ⟨h2, ?_, q1, by omega, fun k hk hk2 => ?_, fun hp => q4 ?_, fun x hx => ?_⟩
  ·refine contract_cut (XCode.cuts [false, false, false, false, false, true] c29.code) k29 rfl mixed (by simp [c29]) fun hh hargs => ?_
   simp [c29]
   refine xcall_self (by simp) hkn ?_
   simp
   refine xcall_self (by simp) hget ?_
   simp
   refine xcall_self (by simp) ctr ?_
   simp [f1, f2, f3, g1, g2, g3]
   have hHj0 : H[h.length]? = some (jbC j) := by have := hHj []; rwa [List.append_nil] at this
   have hjn : ∀ ys : List (List AV), j.i < (H ++ ys).length /\ j.it < (H ++ ys).length := fun ys => by rw [List.length_append]; omega
   have hjn0 : j.i < H.length /\ j.it < H.length := by omega
   have hle : h.length <= H.length + 1 := by omega
   have hle1 : h.length < H.length + 1 := by omega
   have hHlt : ltLL (H.length + 1) H := ltLL_mono (Nat.le_add_right _ _) hr3.lt
   have hf5 := f4 (H.length + 1) (by omega)
   have hg5 := g4 (H.length + 1) (by omega)
   have htk2 : ∀ x : List AV, (H ++ [x]).take (H.length + 1) = H ++ [x] := fun x => List.take_of_length_le (by simp)
   refine xseq_cut ⟨[(1, .box h.length 0), (4, .v (.int .i64 id)), (8, fv), (9, ev), (10, .box H.length 0)], [], H ++ [enC (renE j.m (serverL id))], []⟩ ?_ ?_
   ·simp [hHj0, hHj]
    refine ⟨?_, ?_⟩
    ·refine xcall_self (by simp) (nserver_any id _) ?_
     simp [hHj0, hHj]
     refine ⟨?_, ?_⟩
     ·refine xcall_self (by simp) (jrenamed_c (j := j) (serverL id) hjn0.1 hjn0.2) ?_
      simp [hHj0, hHj, Leq, f1, f2, f3, g1, g2, g3, hle, hle1, hHlt, hf5, hg5, htk2, leqH_refl]
      omega
     ·refine xcall_self (by simp) (jrenamed_c (j := j) (serverL id) (hjn _).1 (hjn _).2) ?_
      simp [hHj0, hHj, Leq, f1, f2, f3, g1, g2, g3, hle, hle1, hHlt, hf5, hg5, htk2, leqH_refl]
      omega
    ·refine xcall_self (by simp) (nserver_any id _) ?_
     simp [hHj0, hHj]
     refine xcall_self (by simp) (jrenamed_c (j := j) (serverL id) (hjn _).1 (hjn _).2) ?_
     simp [hHj0, hHj, Leq, f1, f2, f3, g1, g2, g3, hle, hle1, hHlt, hf5, hg5, htk2, leqH_refl]
     omega
   simp [hHj0, hHj]
   refine xcall_self (by simp) (wops_c 3 _ _) ?_
   have hlH : ∀ x : List AV, (H ++ [x])[H.length]? = some x := fun x => by simp
   simp [hHj0, hHj, hset, f1, f2, f3, g1, g2, g3]
   refine xcall_self (by simp [f1, g1]) ct2 ?_
   have htk : h2.take (H.length + 1) = h2 := List.take_of_length_le (by omega)
   have hlt := q1.lt
   rw [q2] at hlt
   simp [hlt, leqH_refl, htk, q2, hle]
   exact fun i hi hil => by
    rcases hi with h | h | h | h
    ·have := (kf i h).1; omega
    ·have := ke i h; omega
    ·exact h
    ·omega
  ·rw [q3 k (fun hq => by have := (kf k hq).1; omega) (fun hq => by have := ke k hq; omega) hk2, List.getElem?_append_left (by omega)]
   exact hHg k hk
  ·refine plainH_append ?_ fun x hx c hc => by rw [List.mem_singleton.1 hx] at hc; exact enC_plain1 _ c hc
   rw [hH]
   refine plainH_append (plainH_append hp fun x hx c hc => ?_) hrd.plain
   simp at hx
   rcases hx with rfl | rfl
   ·exact jbC_plain j c hc
   ·simp [smC_mk] at hc; rcases hc with rfl | rfl <;> rfl
  ·rw [q5] at hx; exact .inl hx
theorem bk3_ok : (∀ m ∈ [bk3], BkFit m /\ BkOk m /\ (bodyB m).length <= 140737488351232) /\ (∀ m ∈ [bk3], BkFit m /\ BkShort m /\ BkOk m /\ (bodyB m).length <= 10000000) /\ (bytesB [bk3]).length <= 1000 := by
 have e1 : bodyB bk3 = [] := by decide +kernel
 have e2 : bytesB [bk3] = [51, 0, 0, 0, 4] := by decide +kernel
 have hf : BkFit bk3 := by unfold BkFit bk3; simp
 have ho : BkOk bk3 := by unfold BkOk bk3; simp
 have hs : BkShort bk3 := by unfold BkShort bk3; simp
 refine ⟨fun m hm => ?_, fun m hm => ?_, by rw [e2]; simp⟩
 ·rw [List.mem_singleton.1 hm, e1]; exact ⟨hf, ho, by simp⟩
 ·rw [List.mem_singleton.1 hm, e1]; exact ⟨hf, hs, ho, by simp⟩
theorem jclose_d (hi : j.i < h.length) (hi2 : j.it < h.length) : Contract Tryz.prog 30 [.agg (jbC j)] h (.tup [.sl 10 [] none .no, .sl 8 (enc enC [closeE j.m]) none .no]) h [] := by
 refine contract_of k30 mixed (by simp [c30]) fun hh hargs => ?_
 simp [c30]
 refine xcall_of (bbytes_c [bk3] bk3_ok.1 (by have := bk3_ok.2.2; omega) (by simp) _) (by simp [bkC_mk, bk3]) (by simp) ?_
 simp
 refine xcall_self (by simp) (deletion_c j.m.name _) ?_
 simp [hh, enC_mk, closeE]
 done
theorem jplain_d (hi : j.i < h.length) (hi2 : j.it < h.length) : Contract Tryz.prog 31 [.agg (jbC j)] h (.tup [.sl 10 (enc fmC [j.m]) none .no, .sl 8 (enc enC (plnE j.m)) none .no]) h [] := by
 refine contract_of k31 mixed (by simp [c31]) fun hh hargs => ?_
 simp [c31]
 refine xcall_self (by simp) (kind_c j.m _) ?_
 by_cases h1 : j.m.kind = 72
 ·simp [h1, hh, plnE]
  done
 by_cases h2 : j.m.kind = 81
 ·simp [h2]
  refine xcall_self (by simp) (deletion_c [] _) ?_
  simp [hh, plnE, h2, enC_mk, kindI]
  done
 ·simp [h1, h2, hh, plnE, enC_mk]
  done
end
theorem Contract.wrMore {P : Program} {f : FuncId} {args : List AV} {h h' : List (List AV)} {r : AV} (hc : Contract P f args h r h' []) (wr : List Nat) : Contract P f args h r h' wr :=
 ⟨hc.1, fun G w vs cls h1 h2 h3 h4 h5 => (hc.2 G w vs cls h1 h2 h3 h4 h5).mono fun e w' ⟨v, G', cls', he, ha⟩ => ⟨v, G', cls', he, { ha with boxes := fun i hi _ => ha.boxes i hi (by simp) }⟩⟩
section
variable {h : List (List AV)} {lo lo2 i it : Nat} {R : Rg} {T : Tb}
set_option maxHeartbeats 4000000 in
theorem jdo_d (hr : RegAt lo h i R) {n : Nat} (ho : RgOk n R) (hn : n + 10 <= 1000) (ht : TbAt lo2 h it T) (l : List En) (hl : l.length <= 1000000) (hg : ∀ x ∈ l, x.good.length <= 1000000) (spec : List Int) (hsp : spec.length <= 1000000) (most : Int) (m : Fm) (hm : FmSh m)
  {o : Option Int} (hoo : lookO m.name (T.get m.name) (opsOf l) = o) :
  DoesJ 8 [.box i 0, .box it 0, .sl 8 (enc enC l) none .no, .sl 1 (enc intC spec) none .no, .v (.int .i64 most), .agg (fmC m)] lo h i R (doOut spec most R o m).1 (doOut spec most R o m).2 (doReg spec most R o m (h.length + 5)) := by
 have hi := hr.i_lt
 have hi2 := ht.i_lt
 cases hne : needsF m with
 | false =>
  have e1 : doOut spec most R o m = ([], []) := if_pos hne
  have e2 : doReg spec most R o m (h.length + 5) = R := if_pos hne
  rw [e1, e2]
  refine ⟨h, ?_, hr, Nat.le_refl _, fun _ _ _ => rfl, fun h => h, fun x hx => .inl hx⟩
  refine contract_of k8 mixed (by simp [c8]) fun hh hargs => ?_
  simp [c8]
  refine xcall_self (by simp) (needs_c m _) ?_
  simp [hne, hh]
  done
 | true =>
 have hne2 : ¬ needsF m = false := by simp [hne]
 obtain ⟨j, hj⟩ : ∃ j : Jb, j = ⟨m, i, it, l, spec, most⟩ := ⟨_, rfl⟩
 have hjm : j.m = m := by rw [hj]
 have hji : j.i = i := by rw [hj]
 have hjt : j.it = it := by rw [hj]
 have hjl : j.l = l := by rw [hj]
 have hjs : j.spec = spec := by rw [hj]
 have hjo : j.most = most := by rw [hj]
 have hjc : jbC j = [.v (.int .u8 m.kind), .v (.int .u8 m.what), .v (.string (strB m.name)), .v (.string (strB m.portal)), .v (.string (strB m.text)), .sl 1 (enc intC m.oids) none .no, .sl 1 (enc intC m.formats) none .no, .sl 1 (enc intC m.results) none .no, .sl 2 (enc cellC m.params) none .no, .v (.int .i64 m.max), .box i 0, .box it 0, .sl 8 (enc enC l) none .no, .sl 1 (enc intC spec) none .no, .v (.int .i64 most)] := by rw [hj]; rfl
 have hlt1 : i < h.length + 2 := by omega
 have hlt2 : it < h.length + 2 := by omega
 have hJ2 : ltLL (h.length + 2) [fmC m, jbC j] := by simp [jbC_lt (j := j) (n := h.length + 2) (by omega) (by omega)]
 have hr2 := hr.app [fmC m, jbC j] (by simpa using hJ2)
 have ht2 := ht.app [fmC m, jbC j] (by simpa using hJ2)
 have hle2 : (h ++ [fmC m, jbC j]).length = h.length + 2 := by simp
 have hpl : plainH h -> plainH (h ++ [fmC m, jbC j]) := fun hp => plainH_append hp fun x hx c hc => by
  simp at hx
  rcases hx with rfl | rfl
  ·exact fmC_plain m c hc
  ·exact jbC_plain j c hc
 have hgt : ∀ k < h.length, (h ++ [fmC m, jbC j])[k]? = h[k]? := fun k hk => List.getElem?_append_left hk
 have hge : ∀ {h' : List (List AV)}, (∀ k < (h ++ [fmC m, jbC j]).length, k ∉ R.touch i -> h'[k]? = (h ++ [fmC m, jbC j])[k]?) -> ∀ k < h.length, k ∉ R.touch i -> h'[k]? = h[k]? := fun hk k hk1 hk2 => by rw [hk k (by omega) hk2]; exact hgt k hk1
 have hT : (∀ a, a ∈ R.touch i -> a < h.length -> a ∈ R.touch i) = True := eq_true fun _ h _ => h
 have walk : ∀ {h' : List (List AV)} {F : List Fm} {E : List En}, h.length <= h'.length -> ltLL h'.length h' ->
   (m.kind = 80 -> Contract Tryz.prog 28 [.agg (jbC j)] (h ++ [fmC m, jbC j]) (.tup [.sl 10 (enc fmC F) none .no, .sl 8 (enc enC E) none .no]) h' (R.touch i)) ->
   (¬ m.kind = 80 -> isUse m -> Contract Tryz.prog 29 [.agg (jbC j)] (h ++ [fmC m, jbC j]) (.tup [.sl 10 (enc fmC F) none .no, .sl 8 (enc enC E) none .no]) h' (R.touch i)) ->
   (¬ m.kind = 80 -> ¬ isUse m -> m.kind = 67 /\ m.what = 83 -> Contract Tryz.prog 30 [.agg (jbC j)] (h ++ [fmC m, jbC j]) (.tup [.sl 10 (enc fmC F) none .no, .sl 8 (enc enC E) none .no]) h' (R.touch i)) ->
   (¬ m.kind = 80 -> ¬ isUse m -> ¬ (m.kind = 67 /\ m.what = 83) -> Contract Tryz.prog 31 [.agg (jbC j)] (h ++ [fmC m, jbC j]) (.tup [.sl 10 (enc fmC F) none .no, .sl 8 (enc enC E) none .no]) h' (R.touch i)) ->
   Contract Tryz.prog 8 [.box i 0, .box it 0, .sl 8 (enc enC l) none .no, .sl 1 (enc intC spec) none .no, .v (.int .i64 most), .agg (fmC m)] h (.tup [.sl 10 (enc fmC F) none .no, .sl 8 (enc enC E) none .no]) h' (R.touch i) := fun {h' F E} hlen hlt c1 c2 c3 c4 => by
  refine contract_cut (XCode.cuts [false, false, true] c8.code) k8 rfl mixed (by simp [c8]) fun hh hargs => ?_
  have hh2 := ltLL_mono (Nat.le_add_right h.length 2) hh
  have htk : h'.take h'.length = h' := List.take_of_length_le (Nat.le_refl _)
  simp [c8]
  refine xcall_self (by simp) (needs_c m _) ?_
  simp [hne]
  refine xseq_cut ⟨[(11, .box h.length 0), (14, .box (h.length + 1) 0)], [], h ++ [fmC m, jbC j], []⟩ ?_ ?_
  ·simp
   refine xcall_self (by simp) (copied_c m hm _) ?_
   simp [fmC_mk, hjc, Leq, hh2, hlt1, hlt2, leqH_refl]
   done
  have bt : ∀ {x : Int} (c : Int), x = c -> (x == c) = true := fun c h => by simpa using h
  have bf : ∀ {x : Int} (c : Int), ¬ x = c -> (x == c) = false := fun c h => by simpa using h
  by_cases k1 : m.kind = 80
  ·have b1 := bt 80 k1
   simp [b1]
   refine xcall_self (by simp) (c1 k1) ?_
   simp [htk, hlt, leqH_refl, hT, hlen]
   done
  have b1 := bf 80 k1
  by_cases k2 : m.kind = 66
  ·have b2 := bt 66 k2
   simp [b1, b2]
   refine xcall_self (by simp) (c2 k1 (.inl k2)) ?_
   simp [htk, hlt, leqH_refl, hT, hlen]
   done
  have b2 := bf 66 k2
  by_cases w : m.what = 83
  ·have bw := bt 83 w
   by_cases k3 : m.kind = 68
   ·have b3 := bt 68 k3
    simp [b1, b2, b3, bw]
    refine xcall_self (by simp) (c2 k1 (.inr ⟨k3, w⟩)) ?_
    simp [htk, hlt, leqH_refl, hT, hlen]
    done
   have b3 := bf 68 k3
   have hnu : ¬ isUse m := fun h => by rcases h with h | h; exact k2 h; exact k3 h.1
   by_cases k4 : m.kind = 67
   ·have b4 := bt 67 k4
    simp [b1, b2, b3, b4, bw]
    refine xcall_self (by simp) (c3 k1 hnu ⟨k4, w⟩) ?_
    simp [htk, hlt, leqH_refl, hT, hlen]
    done
   have b4 := bf 67 k4
   simp [b1, b2, b3, b4, bw]
   refine xcall_self (by simp) (c4 k1 hnu fun h => k4 h.1) ?_
   simp [htk, hlt, leqH_refl, hT, hlen]
   done
  have bw := bf 83 w
  have hnu : ¬ isUse m := fun h => by rcases h with h | h; exact k2 h; exact w h.2
  have hnc : ¬ (m.kind = 67 /\ m.what = 83) := fun h => w h.2
  by_cases k3 : m.kind = 68
  ·have b3 := bt 68 k3
   have b4 : (m.kind == 67) = false := by rw [k3]; rfl
   simp [b1, b2, b3, b4, bw]
   refine xcall_self (by simp) (c4 k1 hnu hnc) ?_
   simp [htk, hlt, leqH_refl, hT, hlen]
   done
  have b3 := bf 68 k3
  by_cases k4 : m.kind = 67
  ·have b4 := bt 67 k4
   simp [b1, b2, b3, b4, bw]
   refine xcall_self (by simp) (c4 k1 hnu hnc) ?_
   simp [htk, hlt, leqH_refl, hT, hlen]
   done
  have b4 := bf 67 k4
  simp [b1, b2, b3, b4, bw]
  refine xcall_self (by simp) (c4 k1 hnu hnc) ?_
  simp [htk, hlt, leqH_refl, hT, hlen]
  done
 have hooj : lookO j.m.name (T.get j.m.name) (opsOf j.l) = o := by rw [hjm, hjl]; exact hoo
 unfold doOut doReg
 rw [if_neg hne2, if_neg hne2]
 by_cases k1 : m.kind = 80
 ·rw [if_pos k1, if_pos k1]
  obtain ⟨h', ct, p1, p2, p3, p4, p5⟩ := jparse_d (j := j) (by rw [hji]; exact hr2) ho hn (by rw [hjt]; exact ht2) (by rw [hjl]; exact hl) (by rw [hjl]; exact hg) (by rw [hjm]; exact hm) (by rw [hjs]; exact hsp) hooj
  simp only [hle2, hjm, hjs, hjo, hji] at ct p1 p2 p3 p5
  refine ⟨h', walk (by omega) p1.lt (fun _ => ct) (fun h _ => absurd k1 h) (fun h _ _ => absurd k1 h) (fun h _ _ => absurd k1 h), p1, by omega, hge (by rw [hle2]; exact p3), fun hp => p4 (hpl hp), fun x hx => ?_⟩
  rcases p5 x hx with h | h
  ·exact .inl h
  ·exact .inr (by omega)
 rw [if_neg k1, if_neg k1]
 by_cases ku : isUse m
 ·rw [if_pos ku, if_pos ku]
  obtain ⟨h', ct, p1, p2, p3, p4, p5⟩ := juse_d (j := j) (by rw [hji]; exact hr2) ho hn (by rw [hjt]; exact ht2) (by rw [hjl]; exact hl) (by rw [hjl]; exact hg) (by rw [hjs]; exact hsp) hooj
  simp only [hle2, hjm, hjs, hjo, hji] at ct p1 p2 p3 p5
  refine ⟨h', walk (by omega) p1.lt (fun h => absurd h k1) (fun _ _ => ct) (fun _ h _ => absurd ku h) (fun _ h _ => absurd ku h), p1, by omega, hge (by rw [hle2]; exact p3), fun hp => p4 (hpl hp), fun x hx => ?_⟩
  rcases p5 x hx with h | h
  ·exact .inl h
  ·exact .inr (by omega)
 rw [if_neg ku, if_neg ku]
 by_cases kc : m.kind = 67 /\ m.what = 83
 ·rw [if_pos kc]
  have ct := (jclose_d (j := j) (h := h ++ [fmC m, jbC j]) (by rw [hji, hle2]; omega) (by rw [hjt, hle2]; omega)).wrMore (R.touch i)
  rw [hjm] at ct
  exact ⟨_, walk (by omega) hr2.lt (fun h => absurd h k1) (fun _ h => absurd h ku) (fun _ _ _ => ct) (fun _ _ h => absurd kc h), hr2, by omega, fun k hk _ => hgt k hk, hpl, fun x hx => .inl hx⟩
 rw [if_neg kc]
 have ct := (jplain_d (j := j) (h := h ++ [fmC m, jbC j]) (by rw [hji, hle2]; omega) (by rw [hjt, hle2]; omega)).wrMore (R.touch i)
 rw [hjm] at ct
 exact ⟨_, walk (by omega) hr2.lt (fun h => absurd h k1) (fun _ h => absurd h ku) (fun _ _ h => absurd h kc) (fun _ _ _ => ct), hr2, by omega, fun k hk _ => hgt k hk, hpl, fun x hx => .inl hx⟩
end
theorem RgOk.len0 {n : Nat} {R : Rg} (ho : RgOk n R) : R.l.length <= n := by
 have key : ∀ (l : List Nat) (k n : Nat), l.Pairwise (· < ·) -> (∀ x ∈ l, k < x /\ x <= n) -> l.length <= n - k := fun l => by
  induction l with
  | nil => intro _ _ _ _; simp
  | cons y r ih =>
   intro k n hl hk
   have h1 := hk y (List.mem_cons_self ..)
   have h2 := ih y n (List.pairwise_cons.1 hl).2 fun z hz => ⟨(List.pairwise_cons.1 hl).1 z hz, (hk z (List.mem_cons_of_mem _ hz)).2⟩
   rw [List.length_cons]; omega
 have := key (R.l.map Sl.id) 0 n ho.rise (fun x hx => by obtain ⟨s, hs, rfl⟩ := List.mem_map.1 hx; have := ho.ids s hs; have := ho.last; omega)
 simpa using this
structure FO where
 H : List (List AV)
 R : Rg
 T : Tb
 L : List Nm
 b : Nat
 c : Nat
structure FO.Ok (B n : Nat) (d : FO) : Prop where
 reg : RegAt B d.H (B + 2) d.R
 ok : RgOk n d.R
 x : XAt B d.H (B + 3) d.b d.R
 tb : TbAt B d.H (B + 5) d.T
 ta : d.T.a = B + 4
 tm : d.T.most = 40
 nl : NlAt B d.H (B + 6) d.c 40 d.L
 both : Both d.T d.L
 tch : ∀ k ∈ d.R.touch (B + 2), (B <= k /\ k < B + 3) \/ B + 7 <= k
 bs : d.R.l ≠ [] -> B + 7 <= d.b /\ d.b ∉ d.R.touch (B + 2)
 cs : d.L ≠ [] -> B + 7 <= d.c /\ d.c ∉ d.R.touch (B + 2) /\ (d.R.l ≠ [] -> d.c ≠ d.b)
 len : B + 7 <= d.H.length
section
variable {B n : Nat} {d : FO}
theorem FO.Ok.lt (hd : d.Ok B n) : ltLL d.H.length d.H := hd.reg.lt
theorem FO.Ok.app (hd : d.Ok B n) (xs : List (List AV)) (hx : ltLL (d.H.length + xs.length) xs) : ({ d with H := d.H ++ xs } : FO).Ok B n :=
 ⟨hd.reg.app xs hx, hd.ok, hd.x.app xs hx, hd.tb.app xs hx, hd.ta, hd.tm, hd.nl.app xs hx, hd.both, hd.tch, hd.bs, hd.cs, by show B + 7 <= (d.H ++ xs).length; rw [List.length_append]; have := hd.len; omega⟩
theorem FO.Ok.mono (hd : d.Ok B n) {n' : Nat} (hn : n <= n') : d.Ok B n' := ⟨hd.reg, hd.ok.mono hn, hd.x, hd.tb, hd.ta, hd.tm, hd.nl, hd.both, hd.tch, hd.bs, hd.cs, hd.len⟩
theorem FO.Ok.four (hd : d.Ok B n) : B + 3 ∉ d.R.touch (B + 2) /\ B + 4 ∉ d.R.touch (B + 2) /\ B + 5 ∉ d.R.touch (B + 2) /\ B + 6 ∉ d.R.touch (B + 2) := by
 refine ⟨?_, ?_, ?_, ?_⟩ <;> (intro h; have := hd.tch _ h; omega)
structure Step2 (B n : Nat) (d d' : FO) (f fx : FuncId) (a ax : List AV) (r rx : AV) : Prop where
 ex : ∃ H1 b1, Contract Tryz.prog f a d.H r H1 (d.R.touch (B + 2)) /\ Contract Tryz.prog fx ax H1 rx d'.H [B + 3, b1] /\ d.H.length <= H1.length /\ ltLL H1.length H1 /\ H1.length <= d'.H.length /\ B + 7 <= b1 /\
  (∀ k < d.H.length, k ∉ d.R.touch (B + 2) -> H1[k]? = d.H[k]?) /\ (∀ k < d.H.length, k ∉ d.R.touch (B + 2) -> k ≠ B + 3 -> (d.R.l ≠ [] -> k ≠ d.b) -> d'.H[k]? = d.H[k]?)
 ok : d'.Ok B n
 t : d'.T = d.T /\ d'.L = d.L
theorem FO.Ok.step (hd : d.Ok B n) {f fx : FuncId} {a ax : List AV} {r rx : AV} {R' : Rg} {n' : Nat} (hn : RgOk n' R')
  (h1 : ∃ h', Contract Tryz.prog f a d.H r h' (d.R.touch (B + 2)) /\ RegAt B h' (B + 2) R' /\ d.H.length <= h'.length /\ ∀ k < d.H.length, k ∉ d.R.touch (B + 2) -> h'[k]? = d.H[k]?)
  (ht : ∀ x ∈ R'.touch (B + 2), x ∈ d.R.touch (B + 2) \/ d.H.length <= x)
  (h2 : ∀ H1 b1, XAt B H1 (B + 3) b1 d.R -> NlAt B H1 (B + 6) d.c 40 d.L -> ltLL H1.length H1 -> ∃ h' b', Contract Tryz.prog fx ax H1 rx h' [B + 3, b1] /\ XAt B h' (B + 3) b' R' /\ (b' = b1 \/ H1.length <= b') /\ H1.length <= h'.length /\ ∀ k < H1.length, k ≠ B + 3 -> k ≠ b1 -> h'[k]? = H1[k]?) :
  ∃ d', Step2 B n' d d' f fx a ax r rx /\ d'.R = R' := by
 obtain ⟨H1, ct1, hR1, hl1, hk1⟩ := h1
 obtain ⟨f3, f4, f5, f6⟩ := hd.four
 have hlen := hd.len
 have hX1 : ∃ b1, XAt B H1 (B + 3) b1 d.R /\ B + 7 <= b1 /\ b1 ∉ R'.touch (B + 2) /\ (d.L ≠ [] -> d.c ≠ b1) /\ (d.R.l ≠ [] -> b1 = d.b) /\ (d.R.l = [] -> b1 = H1.length) := by
  by_cases hL : d.R.l = []
  ·refine ⟨H1.length, ⟨?_, fun e => absurd hL e, ⟨by omega, by omega⟩, by omega, hR1.lt⟩, by omega, fun hh => by have := hR1.touch_lt0 _ hh; omega, fun hne => ?_, fun e => absurd hL e, fun _ => rfl⟩
   ·rw [hk1 (B + 3) (by omega) f3, hd.x.top]
    unfold lisA; rw [if_pos hL, if_pos hL]
   ·have := (List.getElem?_eq_some_iff.1 (hd.nl.list hne)).1; omega
  ·obtain ⟨b7, bt⟩ := hd.bs hL
   have hbl := (List.getElem?_eq_some_iff.1 (hd.x.list hL)).1
   refine ⟨d.b, hd.x.move (hk1 _ (by omega) f3) (fun _ => hk1 _ hbl bt) hR1.lt, b7, fun hh => ?_, fun hne => (hd.cs hne).2.2 hL, fun _ => rfl, fun e => absurd e hL⟩
   rcases ht _ hh with h | h
   ·exact bt h
   ·omega
 obtain ⟨b1, hX1, hb7, hbt, hcb, hbe, hbn⟩ := hX1
 have hnl1 : NlAt B H1 (B + 6) d.c 40 d.L := hd.nl.move (hk1 _ (by omega) f6) (fun hne => hk1 _ (List.getElem?_eq_some_iff.1 (hd.nl.list hne)).1 (hd.cs hne).2.1) hR1.lt
 obtain ⟨H2, b2, ct2, hX2, hb2, hl2, hk2⟩ := h2 H1 b1 hX1 hnl1 hR1.lt
 have tl := hR1.touch_lt0
 have tch' : ∀ k ∈ R'.touch (B + 2), (B <= k /\ k < B + 3) \/ B + 7 <= k := fun k hk => by
  rcases ht k hk with h | h
  ·exact hd.tch k h
  ·omega
 have keep : ∀ k < d.H.length, k ∉ d.R.touch (B + 2) -> k ≠ B + 3 -> k ≠ b1 -> H2[k]? = d.H[k]? := fun k h1 h2 h3 h4 => by rw [hk2 k (by omega) h3 h4, hk1 k h1 h2]
 have b2t : b2 ∉ R'.touch (B + 2) := fun hh => by
  rcases hb2 with e | e
  ·exact hbt (by rw [<- e]; exact hh)
  ·have := tl _ hh; omega
 refine ⟨⟨H2, R', d.T, d.L, b2, d.c⟩, ⟨⟨H1, b1, ct1, ct2, hl1, hR1.lt, hl2, hb7, hk1, fun k h1 h2 h3 h4 => ?_⟩, ⟨?_, hn, hX2, ?_, hd.ta, hd.tm, ?_, hd.both, tch', fun _ => ⟨by show B + 7 <= b2; rcases hb2 with e | e <;> omega, b2t⟩, fun hne => ⟨(hd.cs hne).1, fun hh => ?_, fun _ => ?_⟩, by show B + 7 <= H2.length; omega⟩, rfl, rfl⟩, rfl⟩
 ·refine keep k h1 h2 h3 fun e => ?_
  by_cases hL : d.R.l = []
  ·have := hbn hL; omega
  ·exact h4 hL (by rw [e]; exact hbe hL)
 ·refine hR1.keep0 (fun k hk => hk2 k (tl k hk) (fun e => ?_) (fun e => hbt (by rw [<- e]; exact hk))) hX2.lt
  have := tch' k hk; omega
 ·refine hd.tb.move (keep _ (by omega) f5 (by omega) (by omega)) ?_ hX2.lt
  rw [hd.ta]
  exact keep _ (by omega) f4 (by omega) (by omega)
 ·exact hd.nl.move (keep _ (by omega) f6 (by omega) (by omega)) (fun hne => keep _ (List.getElem?_eq_some_iff.1 (hd.nl.list hne)).1 (hd.cs hne).2.1 (by have := (hd.cs hne).1; omega) (hcb hne)) hX2.lt
 ·have hcl := (List.getElem?_eq_some_iff.1 (hd.nl.list hne)).1
  rcases ht _ hh with h | h
  ·exact (hd.cs hne).2.1 h
  ·have h : d.H.length <= d.c := h
   omega
 ·have hcl := (List.getElem?_eq_some_iff.1 (hd.nl.list hne)).1
  show d.c ≠ b2
  rcases hb2 with e | e
  ·rw [e]; exact hcb hne
  ·omega
structure StepT (B n : Nat) (d d' : FO) (k : List UInt8) (v : Int) : Prop where
 ex : ∃ H1 c1 r1 r2, Contract Tryz.prog 23 [.box (B + 5) 0, .v (.string (strB k)), .v (.int .i64 v)] d.H r1 H1 [B + 4] /\ Contract Tryz.prog 24 [.box (B + 6) 0, .v (.string (strB k)), .v (.int .i64 v)] H1 r2 d'.H [B + 6, c1] /\ H1.length = d.H.length /\ ltLL H1.length H1 /\ H1.length <= d'.H.length /\ B + 7 <= c1 /\
  (∀ k < d.H.length, k ≠ B + 4 -> H1[k]? = d.H[k]?) /\ (∀ k < d.H.length, k ≠ B + 4 -> k ≠ B + 6 -> (d.L ≠ [] -> k ≠ d.c) -> d'.H[k]? = d.H[k]?) /\ r1.idOf = none /\ r2.idOf = none
 ok : d'.Ok B n
theorem FO.Ok.stepT (hd : d.Ok B n) (k : List UInt8) (hk : k.length <= 281474976710656) (v : Int) : ∃ d', StepT B n d d' k v := by
 obtain ⟨f3, f4, f5, f6⟩ := hd.four
 have hlen := hd.len
 have ct1 := tset_c hd.tb hd.both.ok k hk v
 have tB := hd.tb.to (T' := d.T.set k v) (Tb.set_a _ _ _) (Tb.set_most _ _ _)
 obtain ⟨H1, hH1⟩ : ∃ H1, H1 = d.H.set d.T.a (d.T.set k v).cells := ⟨_, rfl⟩
 rw [<- hH1] at ct1 tB
 have hl1 : H1.length = d.H.length := by rw [hH1, List.length_set]
 have hk1 : ∀ q, q ≠ B + 4 -> H1[q]? = d.H[q]? := fun q hq => by rw [hH1, List.getElem?_set_ne (by rw [hd.ta]; omega)]
 rw [hd.ta] at ct1
 have hN1 : ∃ c1, NlAt B H1 (B + 6) c1 d.T.most d.L /\ B + 7 <= c1 /\ c1 ∉ d.R.touch (B + 2) /\ (d.R.l ≠ [] -> d.b ≠ c1) /\ (d.L ≠ [] -> c1 = d.c) /\ (d.L = [] -> c1 = H1.length) := by
  rw [hd.tm]
  by_cases hL : d.L = []
  ·refine ⟨H1.length, ⟨?_, fun e => absurd hL e, ⟨by omega, by omega⟩, by omega, tB.lt⟩, by omega, fun hh => by have := hd.reg.touch_lt0 _ hh; omega, fun hne => ?_, fun e => absurd hL e, fun _ => rfl⟩
   ·rw [hk1 _ (by omega), hd.nl.top, hL]; rfl
   ·have := (List.getElem?_eq_some_iff.1 (hd.x.list hne)).1; omega
  ·obtain ⟨c7, ctt, cbn⟩ := hd.cs hL
   exact ⟨d.c, hd.nl.move (hk1 _ (by omega)) (fun _ => hk1 _ (by omega)) tB.lt, c7, ctt, fun hne => (cbn hne).symm, fun _ => rfl, fun e => absurd e hL⟩
 obtain ⟨c1, hN1, hc7, hct, hbc, hce, hcn⟩ := hN1
 have hfew := hd.both.few
 obtain ⟨H2, c2, ct2, hN2, hc2, hl2, hk2, _⟩ := nset_c hN1 hd.both.rise (by omega) k v
 have keep : ∀ q < d.H.length, q ≠ B + 4 -> q ≠ B + 6 -> q ≠ c1 -> H2[q]? = d.H[q]? := fun q h1 h2 h3 h4 => by rw [hk2 q (by omega) h3 h4, hk1 q h2]
 have tl := hd.reg.touch_lt0
 have hset := hd.both.set k v
 refine ⟨⟨H2, d.R, d.T.set k v, Nm.set d.T.most k v d.L, d.b, c2⟩, ⟨H1, c1, _, _, ct1, ct2, hl1, by rw [hl1, <- hl1]; exact tB.lt, hl2, hc7, fun q _ h => hk1 q h, fun q h1 h2 h3 h4 => keep q h1 h2 h3 fun e => ?_, rfl, rfl⟩, ⟨?_, hd.ok, ?_, ?_, ?_, ?_, ?_, hset, hd.tch, hd.bs, fun hne => ⟨by show B + 7 <= c2; rcases hc2 with e | e <;> omega, fun hh => ?_, fun hne2 => ?_⟩, by show B + 7 <= H2.length; omega⟩⟩
 ·by_cases hL : d.L = []
  ·have := hcn hL; omega
  ·exact h4 hL (by rw [e]; exact hce hL)
 ·refine hd.reg.keep0 (fun q hq => keep q (tl q hq) (fun e => f4 (by rw [<- e]; exact hq)) (fun e => f6 (by rw [<- e]; exact hq)) fun e => hct (by rw [<- e]; exact hq)) hN2.lt
 ·exact hd.x.move (keep _ (by omega) (by omega) (by omega) (by omega)) (fun hne => keep _ (List.getElem?_eq_some_iff.1 (hd.x.list hne)).1 (by have := (hd.bs hne).1; omega) (by have := (hd.bs hne).1; omega) (hbc hne)) hN2.lt
 ·refine tB.move (hk2 _ (by omega) (by omega) (by omega)) ?_ hN2.lt
  rw [Tb.set_a, hd.ta]
  exact hk2 _ (by omega) (by omega) (by omega)
 ·show (d.T.set k v).a = _; rw [Tb.set_a]; exact hd.ta
 ·show (d.T.set k v).most = _; rw [Tb.set_most]; exact hd.tm
 ·have := hN2; rw [hd.tm] at this; show NlAt B H2 (B + 6) c2 40 (Nm.set d.T.most k v d.L); rw [hd.tm]; exact this
 ·have hh : c2 ∈ d.R.touch (B + 2) := hh
  rcases hc2 with e | e
  ·exact hct (by rw [<- e]; exact hh)
  ·have := tl _ hh; omega
 ·show c2 ≠ d.b
  have hbl := (List.getElem?_eq_some_iff.1 (hd.x.list hne2)).1
  rcases hc2 with e | e
  ·rw [e]; exact (hbc hne2).symm
  ·omega
end
def newFO (h : List (List AV)) : FO := ⟨newTH (newH h ++ [[.sl 0 [] (some true) .exact, .v (.int .i64 0)]]) 40 ++ [[.sl 0 [] (some true) .exact, .v (.int .i64 40)]], ⟨h.length, h.length + 1, 0, []⟩, newT (newH h ++ [[.sl 0 [] (some true) .exact, .v (.int .i64 0)]]) 40, [], h.length + 7, h.length + 7⟩
theorem newH_len (h : List (List AV)) : (newH h).length = h.length + 3 := by unfold newH; simp
theorem newH4_len (h : List (List AV)) (x : List AV) : (newH h ++ [x]).length = h.length + 4 := by rw [List.length_append, newH_len]; rfl
theorem newFO_ok {h : List (List AV)} (hh : ltLL h.length h) : (newFO h).Ok h.length 0 := by
 have r0 := newH_at hh
 have r1 := r0.app [[.sl 0 [] (some true) .exact, .v (.int .i64 0)]] (by simp)
 have hl4 := newH4_len h [.sl 0 [] (some true) .exact, .v (.int .i64 0)]
 have t0 := newT_at (h := newH h ++ [[.sl 0 [] (some true) .exact, .v (.int .i64 0)]]) r1.lt 40 h.length (by rw [hl4]; omega)
 rw [hl4] at t0
 have t1 := t0.app [[.sl 0 [] (some true) .exact, .v (.int .i64 40)]] (by simp)
 have hext : ∀ q < h.length + 4, (newFO h).H[q]? = (newH h ++ [[.sl 0 [] (some true) .exact, .v (.int .i64 0)]])[q]? := fun q hq => by
  show (newTH (newH h ++ [_]) 40 ++ [_])[q]? = _
  unfold newTH
  rw [List.append_assoc, List.getElem?_append_left (by rw [hl4]; exact hq)]
 have hl : (newFO h).H.length = h.length + 7 := by
  show (newTH (newH h ++ [_]) 40 ++ [_]).length = _
  unfold newTH; rw [List.length_append, List.length_append, hl4]; rfl
 have hlt : ltLL (newFO h).H.length (newFO h).H := t1.lt
 have e3 : (newFO h).H[h.length + 3]? = some [.sl 0 [] (some true) .exact, .v (.int .i64 0)] := by
  rw [hext _ (by omega), List.getElem?_append_right (by rw [newH_len]; omega), newH_len, Nat.sub_self]; rfl
 have e6 : (newFO h).H[h.length + 6]? = some [.sl 0 [] (some true) .exact, .v (.int .i64 40)] := by
  show (newTH (newH h ++ [_]) 40 ++ [_])[h.length + 6]? = _
  have : (newTH (newH h ++ [[.sl 0 [] (some true) .exact, .v (.int .i64 0)]]) 40).length = h.length + 6 := by unfold newTH; rw [List.length_append, hl4]; rfl
  rw [List.getElem?_append_right (by rw [this]; exact Nat.le_refl _), this, Nat.sub_self]; rfl
 have hb := both_new (newH h ++ [[.sl 0 [] (some true) .exact, .v (.int .i64 0)]]) (most := 40) (by omega) (by omega)
 refine ⟨r1.keep0 (fun k hk => hext k ?_) hlt, newH_ok h, ⟨e3, fun e => absurd rfl e, ⟨by omega, by show h.length <= h.length + 7; omega⟩, by show h.length + 3 ≠ h.length + 7; omega, hlt⟩, t1, hl4, rfl, ⟨e6, fun e => absurd rfl e, ⟨by omega, by show h.length <= h.length + 7; omega⟩, by show h.length + 6 ≠ h.length + 7; omega, hlt⟩, hb, fun k hk => ?_, fun e => absurd rfl e, fun e => absurd rfl e, by rw [hl]; exact Nat.le_refl _⟩
 ·unfold Rg.touch at hk
  simp at hk
  omega
 ·have hk : k ∈ (h.length + 2) :: h.length :: (h.length + 1) :: ([] : List Nat) := hk
  simp at hk
  omega
theorem newFO_get (h : List (List AV)) : ∀ k < h.length, (newFO h).H[k]? = h[k]? := fun k hk => by
 show (newTH (newH h ++ [_]) 40 ++ [_])[k]? = _
 unfold newTH newH
 rw [List.append_assoc, List.append_assoc, List.append_assoc, List.getElem?_append_left hk]
def shortS (s : Sm) : Bool := decide (s.text.length <= 300) && decide (s.oids.length <= 20)
theorem shortS_iff {s : Sm} : shortS s = true ↔ s.text.length <= 300 /\ s.oids.length <= 20 := by unfold shortS; simp
def putN (stmts : List Sm) : Nat := ((stmts.take 20).takeWhile shortS).length
theorem putN_le (stmts : List Sm) : putN stmts <= stmts.length /\ putN stmts <= 20 := by
 unfold putN
 have h1 := (List.takeWhile_sublist (p := shortS) (l := stmts.take 20)).length_le
 rw [List.length_take] at h1
 omega
theorem takeWhile_at {α : Type} (p : α -> Bool) : ∀ (l : List α) (j : Nat) (hj : j < l.length), j < (l.takeWhile p).length -> p l[j] = true
 | x :: l, 0, _, h => by
  by_cases hx : p x = true
  ·exact hx
  ·rw [List.takeWhile_cons, if_neg hx] at h; cases h
 | x :: l, j + 1, hj, h => by
  by_cases hx : p x = true
  ·rw [List.takeWhile_cons, if_pos hx] at h
   exact takeWhile_at p l j (by simpa using hj) (by simpa using h)
  ·rw [List.takeWhile_cons, if_neg hx] at h; cases h
theorem takeWhile_end {α : Type} (p : α -> Bool) : ∀ (l : List α) (hj : (l.takeWhile p).length < l.length), p l[(l.takeWhile p).length] = false
 | [], hj => by cases hj
 | x :: l, hj => by
  by_cases hx : p x = true
  ·simp only [List.takeWhile_cons, if_pos hx, List.length_cons] at hj ⊢
   exact takeWhile_end p l (by omega)
  ·simp only [List.takeWhile_cons, if_neg hx, List.length_nil] at hj ⊢
   simpa using hx
theorem putN_at {stmts : List Sm} {j : Nat} (hj : j < putN stmts) : ∃ hl : j < stmts.length, shortS stmts[j] = true := by
 have h1 := putN_le stmts
 refine ⟨by omega, ?_⟩
 have := takeWhile_at shortS (stmts.take 20) j (by rw [List.length_take]; omega) hj
 rwa [List.getElem_take] at this
theorem putN_end {stmts : List Sm} (hl : putN stmts < stmts.length) : putN stmts = 20 \/ shortS stmts[putN stmts] = false := by
 have h1 := putN_le stmts
 by_cases h2 : putN stmts = 20
 ·exact .inl h2
 ·right
  have := takeWhile_end shortS (stmts.take 20) (by rw [List.length_take]; unfold putN at *; omega)
  rwa [List.getElem_take] at this
structure StepK (B n : Nat) (s : Sm) (nm : Option (List UInt8)) (d d' : FO) : Prop where
 ex : ∃ d1, Step2 B (n + 1) { d with H := d.H ++ [smC s] } d1 21 22 [.box (B + 2) 0, .agg (smC s)] [.box (B + 3) 0, .agg (smC s)] (.v (.int .i64 (d.R.putId s : Int))) (.v (.int .i64 (d.R.putId s : Int))) /\
  (∀ k, nm = some k -> k.length <= 300 -> StepT B (n + 1) d1 d' k (d.R.putId s)) /\ ((nm = none \/ ∃ k, nm = some k /\ ¬ k.length <= 300) -> d' = d1)
 ok : d'.Ok B (n + 1)
 lt : ∀ k < B, d'.H[k]? = d.H[k]?
theorem FO.Ok.stepK {B n : Nat} {d : FO} (hd : d.Ok B n) (hn : n <= 900) {s : Sm} (hs : shortS s = true) (nm : Option (List UInt8)) : ∃ d', StepK B n s nm d d' := by
 obtain ⟨s1, s2⟩ := shortS_iff.1 hs
 have hd1 := hd.app [smC s] (by simp)
 have hlen : (d.H ++ [smC s]).length = d.H.length + 1 := by simp
 have hkb : (keyB s).length <= 100000 := keyB_size (by unfold fewK; simp; omega)
 have hput := gput_c hd1.reg hd1.ok (by omega) s (by omega) hkb
 obtain ⟨d1, hst, hR⟩ := hd1.step (f := 21) (fx := 22) (a := [.box (B + 2) 0, .agg (smC s)]) (ax := [.box (B + 3) 0, .agg (smC s)]) (r := .v (.int .i64 (d.R.putId s : Int))) (rx := .v (.int .i64 (d.R.putId s : Int))) (hd1.ok.put s ⟨by omega, by omega⟩ ((d.H ++ [smC s]).length + 2))
  (by
   obtain ⟨h', a1, a2, a3, a4, a5⟩ := hput
   exact ⟨h', a1, a2, a3, a4⟩)
  (fun x hx => by
   rcases put_touch hx with h | h
   ·exact .inl h
   ·exact .inr (by rw [h]; show (d.H ++ [smC s]).length <= _; omega))
  (fun H1 b1 hx _ hlt => by
   have := xput_c hx hd1.ok (by have := hd1.ok.len0; omega) (by omega) s (by omega) ((d.H ++ [smC s]).length + 2)
   obtain ⟨h', b', a1, a2, a3, a4, a5, a6⟩ := this
   exact ⟨h', b', a1, a2, a3, a4, a5⟩)
 have hlow : ∀ k < B, d1.H[k]? = d.H[k]? := fun k hk => by
  obtain ⟨H1, b1, _, _, _, _, _, _, _, hg⟩ := hst.ex
  have hl := hd.len
  rw [hg k (by show k < (d.H ++ [smC s]).length; omega) (fun h => by have := hd1.tch k h; omega) (by omega) (fun hne => by have := (hd1.bs hne).1; omega)]
  exact List.getElem?_append_left (by omega)
 by_cases hnm : ∃ k, nm = some k /\ k.length <= 300
 ·obtain ⟨k, rfl, hk⟩ := hnm
  obtain ⟨d', hT⟩ := hst.ok.stepT k (by omega) (d.R.putId s)
  refine ⟨d', ⟨d1, hst, fun k2 e _ => by injection e with e; subst e; exact hT, fun h => ?_⟩, hT.ok, fun q hq => ?_⟩
  ·rcases h with h | ⟨k2, h, h2⟩
   ·cases h
   ·injection h with h; subst h; exact absurd hk h2
  ·obtain ⟨H1, c1, r1, r2, _, _, q1, _, _, _, _, hg, _⟩ := hT.ex
   have hl := hst.ok.len
   rw [hg q (by omega) (by omega) (by omega) (fun hne => by have := (hst.ok.cs hne).1; omega)]
   exact hlow q hq
 ·refine ⟨d1, ⟨d1, hst, fun k e hk => absurd ⟨k, e, hk⟩ hnm, fun _ => rfl⟩, hst.ok, hlow⟩
theorem fchain {B : Nat} (stmts : List Sm) (named : List (List UInt8)) (d0 : FO) (h0 : d0.Ok B 0) : ∃ S : Nat -> FO, S 0 = d0 /\ (∀ j ≤ putN stmts, (S j).Ok B j /\ ∀ k < B, (S j).H[k]? = d0.H[k]?) /\ ∀ j (hj : j < putN stmts), ∃ hl : j < stmts.length, StepK B j stmts[j] named[j]? (S j) (S (j + 1)) := by
 have hN := putN_le stmts
 have key : ∀ N, N <= putN stmts -> ∃ S : Nat -> FO, S 0 = d0 /\ (∀ j ≤ N, (S j).Ok B j /\ ∀ k < B, (S j).H[k]? = d0.H[k]?) /\ ∀ j (hj : j < N), ∃ hl : j < stmts.length, StepK B j stmts[j] named[j]? (S j) (S (j + 1)) := fun N => by
  induction N with
  | zero =>
   intro _
   refine ⟨fun _ => d0, rfl, fun j hj => ?_, fun j hj => absurd hj (by omega)⟩
   have e : j = 0 := by omega
   rw [e]
   exact ⟨h0, fun _ _ => rfl⟩
  | succ N ih =>
   intro hNl
   obtain ⟨S, e0, e1, e2⟩ := ih (by omega)
   obtain ⟨hl, hs⟩ := putN_at (stmts := stmts) (j := N) (by omega)
   obtain ⟨d', hst⟩ := (e1 N (Nat.le_refl _)).1.stepK (by omega) hs named[N]?
   refine ⟨fun j => if j <= N then S j else d', (if_pos (Nat.zero_le _)).trans e0, fun j hj => ?_, fun j hj => ?_⟩
   ·by_cases h : j <= N
    ·simp only [if_pos h]; exact e1 j h
    ·have : j = N + 1 := by omega
     subst this
     simp only [if_neg h]
     exact ⟨hst.ok, fun k hk => by rw [hst.lt k hk]; exact (e1 N (Nat.le_refl _)).2 k hk⟩
   ·by_cases h : j < N
    ·simp only [if_pos (show j <= N by omega), if_pos (show j + 1 <= N by omega)]; exact e2 j h
    ·have : j = N := by omega
     subst this
     simp only [if_pos (Nat.le_refl _), if_neg (show ¬ j + 1 <= j by omega)]
     exact ⟨hl, hst⟩
 exact key _ (Nat.le_refl _)
set_option maxHeartbeats 4000000 in
theorem lknown_c (stmts : List Sm) (named : List (List UInt8)) {h : List (List AV)} (hh : ltLL h.length h) :
  ∃ d : FO, d.Ok h.length 20 /\ (∀ k < h.length, d.H[k]? = h[k]?) /\ Contract Tryz.prog 5 [.sl 2 (enc smC stmts) none .no, .sl 1 (enc strC named) none .no] h (.tup [.box (h.length + 2) 0, .box (h.length + 5) 0, .box (h.length + 3) 0, .box (h.length + 6) 0]) d.H [] := by
 have hN := putN_le stmts
 have h0 := newFO_ok hh
 obtain ⟨S, e0, e1, e2⟩ := fchain stmts named (newFO h) h0
 refine ⟨S (putN stmts), (e1 _ (Nat.le_refl _)).1.mono hN.2, fun k hk => by rw [(e1 _ (Nat.le_refl _)).2 k hk, newFO_get h k hk], ?_⟩
 have hl4 := newH4_len h [.sl 0 [] (some true) .exact, .v (.int .i64 0)]
 have hl3 := newH_len h
 have hlT : (newTH (newH h ++ [[.sl 0 [] (some true) .exact, .v (.int .i64 0)]]) 40).length = h.length + 6 := by unfold newTH; rw [List.length_append, hl4]; rfl
 have ctN := gnew_c h
 have ctT := tnew_c (most := 40) (by omega) (by omega) (newH h ++ [[.sl 0 [] (some true) .exact, .v (.int .i64 0)]])
 have ctL := nnew_c (most := 40) (by omega) (by omega) (newTH (newH h ++ [[.sl 0 [] (some true) .exact, .v (.int .i64 0)]]) 40)
 rw [hl4] at ctT
 rw [hlT] at ctL
 have eN : newTH (newH h ++ [[.sl 0 [] (some true) .exact, .v (.int .i64 0)]]) 40 ++ [[.sl 0 [] (some true) .exact, .v (.int .i64 ((40 : Nat) : Int))]] = (newFO h).H := rfl
 rw [eN] at ctL
 have hSl : ∀ j ≤ putN stmts, h.length + 7 <= (S j).H.length := fun j hj => (e1 j hj).1.len
 have hSt : ∀ j ≤ putN stmts, ltLL (S j).H.length (S j).H := fun j hj => (e1 j hj).1.lt
 refine contract_of k5 mixed (by simp [c5]) fun hh' hargs => ?_
 simp [c5]
 refine xcall_self (by simp) ctN ?_
 generalize hG1 : newH h = G1 at *
 simp [hl3]
 refine xcall_self (by simp) ctT ?_
 generalize hG2 : newTH (G1 ++ [[.sl 0 [] (some true) .exact, .v (.int .i64 0)]]) 40 = G2 at *
 simp [hl3]
 refine xcall_self (by simp) ctL ?_
 simp [hl3]
 have htkS : ∀ j, (S j).H.take (S j).H.length = (S j).H := fun j => List.take_of_length_le (Nat.le_refl _)
 refine xloop_ok (D := Nat) (fun j => ⟨[(0, .sl 2 (enc smC stmts) none .no), (1, .sl 1 (enc strC named) none .no), (8, .box (h.length + 2) 0), (9, .box (h.length + 3) 0), (10, .box (h.length + 5) 0), (12, .box (h.length + 6) 0), (28, .sl 2 (enc smC stmts) none .no), (29, .v (.int .i64 stmts.length)), (30, .v (.int .i64 j))], [], (S j).H, []⟩) (fun j => j <= putN stmts) (fun j => putN stmts - j) 0 (by simp) ?_ ?_
 ·have hl0 := h0.len
  have ht0 := h0.lt
  have a2 : h.length + 2 < (newFO h).H.length := by omega
  have a3 : h.length + 3 < (newFO h).H.length := by omega
  have a5 : h.length + 5 < (newFO h).H.length := by omega
  have a6 : h.length + 6 < (newFO h).H.length := by omega
  have a0 : h.length <= (newFO h).H.length := by omega
  have htk0 : (newFO h).H.take (newFO h).H.length = (newFO h).H := List.take_of_length_le (Nat.le_refl _)
  simp [Leq, e0, ht0, a0, a2, a3, a5, a6, htk0, leqH_refl]
  done
 ·intro j hj
  have hSlj := hSl j hj
  have hStj := hSt j hj
  have b0 : h.length <= (S j).H.length := by omega
  have b2 : h.length + 2 < (S j).H.length := by omega
  have b3 : h.length + 3 < (S j).H.length := by omega
  have b5 : h.length + 5 < (S j).H.length := by omega
  have b6 : h.length + 6 < (S j).H.length := by omega
  have htk1 : ∀ x : List AV, ((S j).H ++ [x]).take (S j).H.length = (S j).H := fun x => List.take_left
  by_cases hlt : j < stmts.length
  ·have h1000 : (j : Int) < 1000 := by omega
   by_cases hp : j < putN stmts
   ·obtain ⟨_, hk⟩ := e2 j hp
    obtain ⟨_, hs⟩ := putN_at hp
    obtain ⟨s1, s2⟩ := shortS_iff.1 hs
    obtain ⟨d1, hst1, hnm1, hnm2⟩ := hk.ex
    obtain ⟨H1, c1, ct1, ct2, m1, m2, m3, m4, m5, m6⟩ := hst1.ex
    have ok1 := ((e1 j hj).1).app [smC stmts[j]] (by simp)
    have q20 : ¬ (20 : Int) <= j := by omega
    have q300 : ¬ (300 : Int) < (stmts[j].text.length : Int) := by omega
    have qo : ¬ (20 : Int) < (stmts[j].oids.length : Int) := by omega
    have hg1 : H1[(S j).H.length]? = some (smC stmts[j]) := by
     rw [m5 _ (by simp) (fun hq => by have := (e1 j hj).1.reg.touch_lt0 _ hq; omega)]
     simp
    have hw : IntKind.i64.wrap ((j : Int) + 1) = (j : Int) + 1 := wrap64 (by omega) (by omega)
    have hwr1 : ∀ q ∈ (S j).R.touch (h.length + 2), ¬ q < h.length := fun q hq => by have := (e1 j hj).1.tch q hq; omega
    have hS1l := hSl (j + 1) hp
    have hS1t := hSt (j + 1) hp
    have z0 : h.length <= (S (j + 1)).H.length := by omega
    have z2 : h.length + 2 < (S (j + 1)).H.length := by omega
    have z3 : h.length + 3 < (S (j + 1)).H.length := by omega
    have z5 : h.length + 5 < (S (j + 1)).H.length := by omega
    have z6 : h.length + 6 < (S (j + 1)).H.length := by omega
    simp [hlt, q20, q300, qo]
    refine xcall_self (by simp) ct1 ?_
    simp [hg1]
    refine xcall_self (by simp) ct2 ?_
    simp
    by_cases hn : j < named.length
    ·by_cases hn3 : named[j].length <= 300
     ·have hn4 : (named[j].length : Int) <= 300 := by omega
      have hT := hnm1 named[j] (List.getElem?_eq_getElem hn) hn3
      obtain ⟨H3, cc3, r1, r2, ct3, ct4, t1, t2, t3, t4, t5, t6, t7, t8⟩ := hT.ex
      simp [hn, hn4, strC]
      refine xcall_self (by simp) ct3 ?_
      simp [t7, strC, hn]
      refine xcall_self (by simp) ct4 ?_
      simp [t8, hw]
      refine ⟨j + 1, by omega, by omega, ?_⟩
      simp [Leq, hS1t, z0, z2, z3, z5, z6, htkS, leqH_refl]
      exact ⟨by omega, by omega, fun a ha => by
       rcases ha with h | h
       ·have := hwr1 a h; omega
       ·omega⟩
     ·have hn4 : ¬ (named[j].length : Int) <= 300 := by omega
      have hd := hnm2 (.inr ⟨named[j], List.getElem?_eq_getElem hn, hn3⟩)
      rw [<- hd]
      simp [hn, hn4, hw, strC]
      refine ⟨j + 1, by omega, by omega, ?_⟩
      simp [Leq, hS1t, z0, z2, z3, z5, z6, htkS, leqH_refl]
      exact ⟨by omega, fun a ha => by
       rcases ha with h | h
       ·have := hwr1 a h; omega
       ·omega⟩
    ·have hd := hnm2 (.inl (List.getElem?_eq_none (by omega)))
     rw [<- hd]
     simp [hn, hw]
     refine ⟨j + 1, by omega, by omega, ?_⟩
     simp [Leq, hS1t, z0, z2, z3, z5, z6, htkS, leqH_refl]
     exact ⟨by omega, fun a ha => by
      rcases ha with h | h
      ·have := hwr1 a h; omega
      ·omega⟩
   ·have hj2 : putN stmts = j := by omega
    have hend := putN_end (stmts := stmts) (by omega)
    rw [hj2]
    simp only [hj2] at hend
    by_cases q20 : (20 : Int) <= j
    ·simp [hlt, q20, b0, b2, b3, b5, b6, htk1, hStj, leqH_refl]
     done
    by_cases q300 : (300 : Int) < (stmts[j].text.length : Int)
    ·simp [hlt, q20, q300, b0, b2, b3, b5, b6, htk1, hStj, leqH_refl]
     done
    have qo : (20 : Int) < (stmts[j].oids.length : Int) := by
     rcases hend with h | h
     ·omega
     ·have : ¬ (stmts[j].text.length <= 300 /\ stmts[j].oids.length <= 20) := fun hs => by rw [shortS_iff.2 hs] at h; cases h
      omega
    simp [hlt, q20, q300, qo, b0, b2, b3, b5, b6, htk1, hStj, leqH_refl]
    done
  ·have hj2 : putN stmts = j := by omega
   rw [hj2]
   have : j = stmts.length := by omega
   have hnl : ¬ (j : Int) < (stmts.length : Int) := by omega
   simp [hlt, hnl, b0, b2, b3, b5, b6, htkS, hStj, leqH_refl]
   done
def a24 : Fm := ⟨80, 0, [97], [], [98, 101, 103, 105, 110], [], [], [], [], 0⟩
def b24 : Fm := ⟨66, 0, [97], [], [], [], [], [], [], 0⟩
def e24 : En := parE a24 1 ⟨1, 1⟩
theorem a24_key : keyable (stM a24) = true := by decide +kernel
theorem a24_sh : FmSh a24 := ⟨by decide, by decide, by decide, by decide, fun c hc => (by cases hc), by decide, by decide, by decide⟩
theorem b24_sh : FmSh b24 := ⟨by decide, by decide, by decide, by decide, fun c hc => (by cases hc), by decide, by decide, by decide⟩
theorem a24_put (a b : Nat) : (⟨a, b, 0, []⟩ : Rg).putId (stM a24) = 1 := by unfold Rg.putId; rw [if_pos a24_key]; rfl
theorem a24_out (a b : Nat) : doOut [] 2 ⟨a, b, 0, []⟩ none a24 = ([named a24 [95, 112, 49]], [e24]) := by
 have hn : needsF a24 = true := by decide
 have hr := room_no (full_nil 2)
 unfold doOut
 rw [if_neg (by simp [hn]), if_pos (show a24.kind = 80 from rfl)]
 unfold parOut
 rw [if_neg (fun h => by cases h.1), a24_put, if_neg (by omega), if_neg (by simp), hr.1, hr.2]
 show ([named a24 (serverL 1)], [parE a24 1 ⟨1, 1⟩]) = _
 rw [server_one]; rfl
def R24 (a b nb : Nat) : Rg := ⟨a, b, 1, [⟨1, 2, stM a24, nb⟩]⟩
theorem a24_reg (a b nb : Nat) : doReg [] 2 ⟨a, b, 0, []⟩ none a24 nb = R24 a b nb := by
 have hn : needsF a24 = true := by decide
 have ho := a24_out a b
 unfold doOut at ho
 rw [if_neg (by simp [hn]), if_pos (show a24.kind = 80 from rfl)] at ho
 unfold doReg
 rw [if_neg (by simp [hn]), if_pos (show a24.kind = 80 from rfl), ho]
 have hp : parReg ⟨a, b, 0, []⟩ none a24 nb = ⟨a, b, 1, [⟨1, 1, stM a24, nb⟩]⟩ := by
  unfold parReg
  rw [if_neg (fun h => by cases h.1)]
  unfold Rg.put
  rw [if_pos a24_key]; rfl
 rw [hp]; rfl
theorem b24_out (a b nb : Nat) : doOut [1] 2 (R24 a b nb) (some 1) b24 = ([named b24 [95, 112, 49]], [useE b24 1]) := by
 have hn : needsF b24 = true := by decide
 have e1 : ∀ s, readyF [1] 2 1 s = [] := fun s => by unfold readyF; exact if_pos (by simp)
 have e2 : readyE [1] 2 1 = [] := by unfold readyE; exact if_pos (by simp)
 unfold doOut
 rw [if_neg (by simp [hn]), if_neg (by decide), if_pos (show isUse b24 from .inl rfl)]
 show (readyF [1] 2 1 _ ++ [named b24 (serverL 1)], readyE [1] 2 1 ++ [useE b24 1]) = _
 rw [e1, e2, server_one]; rfl
theorem b24_reg (a b nb nb2 : Nat) : doReg [1] 2 (R24 a b nb) (some 1) b24 nb2 = R24 a b nb := by
 have hn : needsF b24 = true := by decide
 have ho := b24_out a b nb
 unfold doOut at ho
 rw [if_neg (by simp [hn]), if_neg (by decide), if_pos (show isUse b24 from .inl rfl)] at ho
 unfold doReg
 rw [if_neg (by simp [hn]), if_neg (by decide), if_pos (show isUse b24 from .inl rfl), ho]; rfl
set_option maxHeartbeats 2000000 in
theorem lawake_c {h : List (List AV)} (hh : ltLL h.length h) : Contract Tryz.prog 7 [] h (.v (.bool true)) h [] := by
 have r0 := newH_at hh
 have hl3 := newH_len h
 have t0 := newT_at (h := newH h) r0.lt 4 0 (Nat.zero_le _)
 rw [hl3] at t0
 have hHl : (newTH (newH h) 4).length = h.length + 5 := by unfold newTH; rw [List.length_append, hl3]; rfl
 have hHg : ∀ k < h.length + 3, (newTH (newH h) 4)[k]? = (newH h)[k]? := fun k hk => by unfold newTH; exact List.getElem?_append_left (by omega)
 have hHh : ∀ k < h.length, (newTH (newH h) 4)[k]? = h[k]? := fun k hk => by rw [hHg k (by omega)]; unfold newH; exact List.getElem?_append_left hk
 have tch : ∀ k ∈ (⟨h.length, h.length + 1, 0, []⟩ : Rg).touch (h.length + 2), h.length <= k /\ k < h.length + 3 := fun k hk => by
  have hk : k ∈ (h.length + 2) :: h.length :: (h.length + 1) :: ([] : List Nat) := hk
  simp at hk
  omega
 have r1 : RegAt h.length (newTH (newH h) 4) (h.length + 2) ⟨h.length, h.length + 1, 0, []⟩ := r0.keep0 (fun k hk => hHg k (by have := tch k hk; omega)) t0.lt
 have hget0 : (newT (newH h) 4).get [97] = none := rfl
 obtain ⟨h1, c1, p1, p2, p3, _, p5⟩ := jdo_d r1 (n := 0) (newH_ok h) (by omega) t0 [] (by simp) (by simp) [] (by simp) 2 a24 a24_sh (o := none) (by show lookO [97] ((newT (newH h) 4).get [97]) (opsOf []) = none; rw [hget0]; rfl)
 rw [a24_out] at c1
 rw [a24_reg] at p1 p5
 rw [hHl] at p1 p2 p3 p5
 have ta : (newT (newH h) 4).a = h.length + 3 := hl3
 have t1 : TbAt 0 h1 (h.length + 4) (newT (newH h) 4) := t0.move (p3 _ (by omega) (fun hk => by have := tch _ hk; omega)) (by rw [ta]; exact p3 _ (by omega) (fun hk => by have := tch _ hk; omega)) p1.lt
 have hok1 : RgOk 2 (R24 h.length (h.length + 1) (h.length + 5 + 5)) := by
  have h2 := (newH_ok h).put (stM a24) (by decide) (h.length + 5 + 5)
  have h3 := h2.ref 1
  have e : ((⟨h.length, h.length + 1, 0, []⟩ : Rg).put (stM a24) (h.length + 5 + 5)).ref 1 = R24 h.length (h.length + 1) (h.length + 5 + 5) := by
   unfold Rg.put; rw [if_pos a24_key]; rfl
  rw [e] at h3; exact h3
 obtain ⟨h2, c2, q1, q2, q3, _, q5⟩ := jdo_d p1 (n := 2) hok1 (by omega) t1 [e24] (by simp) (by intro x hx; rw [List.mem_singleton.1 hx]; show [_].length <= _; simp) [1] (by simp) 2 b24 b24_sh (o := some 1) (by show lookO [97] ((newT (newH h) 4).get [97]) (opsOf [e24]) = some 1; rw [hget0]; rfl)
 rw [b24_out] at c2
 rw [b24_reg] at q1 q5
 have hrefs := grefs_c q1 1
 have tch1 : ∀ k ∈ (R24 h.length (h.length + 1) (h.length + 5 + 5)).touch (h.length + 2), h.length <= k := fun k hk => by
  rcases p5 k hk with h | h
  ·exact (tch k h).1
  ·omega
 have hfin : ∀ k < h.length, h2[k]? = h[k]? := fun k hk => by
  rw [q3 k (by omega) (fun hq => by have := tch1 k hq; omega), p3 k (by omega) (fun hq => by have := (tch k hq).1; omega), hHh k hk]
 have htk : h2.take h.length = h := List.ext_getElem? fun k => by
  by_cases hk : k < h.length
  ·rw [List.getElem?_take_of_lt hk]; exact hfin k hk
  ·rw [List.getElem?_eq_none (by rw [List.length_take]; omega), List.getElem?_eq_none (by omega)]
 have ctN := gnew_c h
 have ctT := tnew_c (most := 4) (by omega) (by omega) (newH h)
 rw [hl3] at ctT
 have hle : h.length <= h2.length := by omega
 have w1 : ∀ k ∈ (⟨h.length, h.length + 1, 0, []⟩ : Rg).touch (h.length + 2), ¬ k < h.length := fun k hk => by have := (tch k hk).1; omega
 have w2 : ∀ k ∈ (R24 h.length (h.length + 1) (h.length + 5 + 5)).touch (h.length + 2), ¬ k < h.length := fun k hk => by have := tch1 k hk; omega
 generalize (⟨h.length, h.length + 1, 0, []⟩ : Rg).touch (h.length + 2) = W1 at *
 have hrf : refsOf ((R24 h.length (h.length + 1) (h.length + 5 + 5)).find 1) = 2 := rfl
 rw [hrf] at hrefs
 generalize (R24 h.length (h.length + 1) (h.length + 5 + 5)).touch (h.length + 2) = W2 at *
 refine contract_of k7 mixed (by simp [c7]) fun hh' hargs => ?_
 simp [c7]
 refine xcall_self (by simp) ctN ?_
 simp
 refine xcall_self (by simp) ctT ?_
 simp
 refine xcall_of c1 (by simp [fmC_mk, a24]) (by simp) ?_
 simp
 refine xcall_of c2 (by simp [fmC_mk, b24, intC]) (by simp) ?_
 simp [named, useE, e24, parE, a24, b24, fmC_mk, enC_mk]
 refine xcall_self (by simp) hrefs ?_
 simp [htk, hle, leqH_refl, hh]
 exact fun i hi => by
  rcases hi with h | h
  ·have := w2 i h; omega
  ·have := w1 i h; omega
structure OwnOk (k : Int) (F : List Fm) (E : List En) : Prop where
 lenF : F.length <= 3
 lenE : E.length <= 3
 hide : ∀ i (hi : i < E.length), E[i].hide = !decide (i + 1 = E.length)
 pre : ∀ i (hi : i + 1 < E.length), ∃ hf : i < F.length, (F[i].kind = 67 /\ E[i].kind = 7) \/ (¬ F[i].kind = 67 /\ F[i].kind = 80 /\ E[i].kind = 2 /\ E.length <= i + 2)
 last : ∀ hf : 0 < F.length, F[F.length - 1].kind = k
theorem own_snoc {k : Int} {F : List Fm} {E : List En} (hl : F.length = E.length) (h2 : E.length <= 2) (hh : ∀ i (hi : i < E.length), E[i].hide = true) (hp : ∀ i (hi : i < E.length), ∃ hf : i < F.length, (F[i].kind = 67 /\ E[i].kind = 7) \/ (¬ F[i].kind = 67 /\ F[i].kind = 80 /\ E[i].kind = 2 /\ E.length <= i + 1)) {f : Fm} {e : En} (hf : f.kind = k) (he : e.hide = false) : OwnOk k (F ++ [f]) (E ++ [e]) := by
 have eE : (E ++ [e]).length = E.length + 1 := by simp
 have eF : (F ++ [f]).length = F.length + 1 := by simp
 refine ⟨by omega, by omega, fun i hi => ?_, fun i hi => ?_, fun h0 => ?_⟩
 ·by_cases hlt : i < E.length
  ·rw [List.getElem_append_left hlt, hh i hlt, eE]; simp; omega
  ·have : i = E.length := by omega
   subst this
   rw [List.getElem_append_right (Nat.le_refl _)]
   simp [he]
 ·have hlt : i < E.length := by omega
  obtain ⟨h1, h3⟩ := hp i hlt
  refine ⟨by omega, ?_⟩
  rw [List.getElem_append_left h1, List.getElem_append_left hlt]
  rcases h3 with h | h
  ·exact .inl h
  ·exact .inr ⟨h.1, h.2.1, h.2.2.1, by omega⟩
 ·have e : (F ++ [f]).length - 1 = F.length := by simp
  simp only [e]
  rw [List.getElem_append_right (Nat.le_refl _)]
  simp [hf]
theorem own_none {k : Int} {F : List Fm} (h1 : F.length <= 3) (h2 : ∀ hf : 0 < F.length, F[F.length - 1].kind = k) : OwnOk k F [] := ⟨h1, by simp, fun i hi => (by cases hi), fun i hi => (by cases hi), h2⟩
theorem own_one {k : Int} {F : List Fm} {e : En} (h1 : F.length <= 3) (h2 : ∀ hf : 0 < F.length, F[F.length - 1].kind = k) (he : e.hide = false) : OwnOk k F [e] := by
 refine ⟨h1, by simp, fun i hi => ?_, fun i hi => ?_, h2⟩
 ·have : i = 0 := by simpa using hi
  subst this; simp [he]
 ·simp at hi
theorem room_own (spec : List Int) (most : Int) : (roomF spec most).length = (roomE spec most).length /\ (roomE spec most).length <= 1 /\ (∀ i (hi : i < (roomE spec most).length), (roomE spec most)[i].hide = true) /\ ∀ i (hi : i < (roomE spec most).length), ∃ hf : i < (roomF spec most).length, (roomF spec most)[i].kind = 67 /\ (roomE spec most)[i].kind = 7 := by
 unfold roomF roomE
 by_cases h : full19 spec most = true
 ·simp only [if_pos h]
  refine ⟨rfl, Nat.le_refl _, fun i hi => ?_, fun i hi => ?_⟩
  ·have : i = 0 := by simpa using hi
   subst this; rfl
  ·have : i = 0 := by simpa using hi
   subst this; exact ⟨by simp, rfl, rfl⟩
 ·simp only [if_neg h]
  exact ⟨rfl, Nat.zero_le _, fun i hi => (by cases hi), fun i hi => (by cases hi)⟩
theorem ready_own (spec : List Int) (most id : Int) (s : Sm) : (readyF spec most id s).length = (readyE spec most id).length /\ (readyE spec most id).length <= 2 /\ (∀ i (hi : i < (readyE spec most id).length), (readyE spec most id)[i].hide = true) /\
  ∀ i (hi : i < (readyE spec most id).length), ∃ hf : i < (readyF spec most id s).length, ((readyF spec most id s)[i].kind = 67 /\ (readyE spec most id)[i].kind = 7) \/ (¬ (readyF spec most id s)[i].kind = 67 /\ (readyF spec most id s)[i].kind = 80 /\ (readyE spec most id)[i].kind = 2 /\ (readyE spec most id).length <= i + 1) := by
 obtain ⟨r1, r2, r3, r4⟩ := room_own spec most
 unfold readyF readyE
 by_cases h : spec.contains id = true
 ·simp only [if_pos h]
  exact ⟨rfl, Nat.zero_le _, fun i hi => (by cases hi), fun i hi => (by cases hi)⟩
 ·simp only [if_neg h]
  have eE : (roomE spec most ++ [hidE 2 ⟨1, id⟩]).length = (roomE spec most).length + 1 := by simp
  have eF : (roomF spec most ++ [parseF (serverL id) s]).length = (roomF spec most).length + 1 := by simp
  refine ⟨by omega, by omega, fun i hi => ?_, fun i hi => ?_⟩
  ·by_cases hlt : i < (roomE spec most).length
   ·rw [List.getElem_append_left hlt]; exact r3 i hlt
   ·have : i = (roomE spec most).length := by omega
    subst this
    rw [List.getElem_append_right (Nat.le_refl _)]; simp [hidE]
  ·by_cases hlt : i < (roomE spec most).length
   ·obtain ⟨h1, h2⟩ := r4 i hlt
    refine ⟨by omega, .inl ?_⟩
    rw [List.getElem_append_left h1, List.getElem_append_left hlt]; exact h2
   ·have : i = (roomE spec most).length := by omega
    subst this
    refine ⟨by omega, .inr ?_⟩
    rw [List.getElem_append_right (by omega), List.getElem_append_right (Nat.le_refl _)]
    simp [hidE, parseF, r1]
theorem do_own (spec : List Int) (most : Int) (R : Rg) (o : Option Int) (m : Fm) : OwnOk m.kind (doOut spec most R o m).1 (doOut spec most R o m).2 := by
 have one : ∀ (f : Fm), f.kind = m.kind -> ∀ hf : 0 < [f].length, [f][[f].length - 1].kind = m.kind := fun f hf _ => hf
 unfold doOut
 split
 ·exact own_none (by simp) (fun h => by cases h)
 split
 ·unfold parOut
  split
  ·exact own_one (by simp) (one _ rfl) rfl
  split
  ·exact own_none (by simp) (fun h => by cases h)
  split
  ·exact own_one (by simp) (one _ rfl) rfl
  ·obtain ⟨r1, r2, r3, r4⟩ := room_own spec most
   exact own_snoc r1 (by omega) r3 (fun i hi => by obtain ⟨h1, h2⟩ := r4 i hi; exact ⟨h1, .inl h2⟩) rfl rfl
 split
 ·unfold useOut
  split
  ·exact own_one (by simp) (one _ rfl) rfl
  ·obtain ⟨r1, r2, r3, r4⟩ := ready_own spec most ‹Int› (stOf (R.find ‹Int›))
   exact own_snoc r1 r2 r3 r4 rfl rfl
 split
 ·exact own_one (by simp) (fun h => by cases h) rfl
 ·unfold plnE
  split
  ·exact own_none (by simp) (one _ rfl)
  split
  ·exact own_one (by simp) (one _ rfl) rfl
  ·exact own_one (by simp) (one _ rfl) rfl
set_option maxHeartbeats 4000000 in
theorem rown_c (stmts : List Sm) (named : List (List UInt8)) (spec : List Int) (most : Int) (f : Fm) : Contract Tryz.prog 4 [.sl 2 (enc smC stmts) none .no, .sl 1 (enc strC named) none .no, .sl 1 (enc intC spec) none .no, .v (.int .i64 most), .agg (fmC f)] [] (.v (.bool true)) [] [] := by
 refine contract_of k4 mixed (by simp [c4]) fun hh hargs => ?_
 obtain ⟨d, hd, hdg, ctK⟩ := lknown_c stmts named (h := [fmC f]) (by simp)
 have hd0 : d.H[0]? = some (fmC f) := by rw [hdg 0 (by simp)]; rfl
 have hlt := hd.lt
 have haw := lawake_c hlt
 simp [c4]
 refine xcall_self (by simp) ctK ?_
 simp [hd0]
 refine xcall_self (by simp) (plain_c f _) ?_
 cases hp : plainF f with
 | false =>
  simp
  refine xcall_self (by simp) haw ?_
  simp
  done
 | true =>
 by_cases h40 : (40 : Int) < (spec.length : Int)
 ·simp [h40]
  refine xcall_self (by simp) haw ?_
  simp
  done
 have hm := fmSh_of hp
 obtain ⟨o, hoo⟩ : ∃ o, lookO f.name (d.T.get f.name) (opsOf []) = o := ⟨_, rfl⟩
 obtain ⟨h1, c1, p1, p2, p3, _, p5⟩ := jdo_d hd.reg hd.ok (by omega) hd.tb [] (by simp) (by simp) spec (by omega) most f hm hoo
 have hown := do_own spec most d.R o f
 generalize (doOut spec most d.R o f).1 = F at *
 generalize (doOut spec most d.R o f).2 = E at *
 have hl := hd.len
 have h10 : h1[0]? = some (fmC f) := by
  rw [p3 0 (by omega) (fun hq => by have := hd.tch 0 hq; simp at this), hd0]
 have hlt1 := p1.lt
 have haw1 := lawake_c hlt1
 have hlF := hown.lenF
 have hlE := hown.lenE
 simp [h40, hd0]
 refine xcall_of c1 (by simp) (by simp) ?_
 have q1 : ¬ (3 : Int) < (F.length : Int) := by omega
 have q2 : ¬ (3 : Int) < (E.length : Int) := by omega
 simp [q1, q2]
 refine xloop_ok (D := Nat) (fun i => ⟨[(9, .box 0 0), (15, .sl 10 (enc fmC F) none .no), (16, .sl 8 (enc enC E) none .no), (70, .sl 8 (enc enC E) none .no), (71, .v (.int .i64 E.length)), (72, .v (.int .i64 i))], [], h1, []⟩) (fun i => i <= E.length) (fun i => E.length - i) 0 (by simp) ?_ ?_
 ·have htk : h1.take h1.length = h1 := List.take_of_length_le (Nat.le_refl _)
  have h0l : 0 < h1.length := by omega
  simp [Leq, hlt1, htk, leqH_refl, h0l]
  done
 ·intro i hi
  have htk : ∀ x : List AV, (h1 ++ [x]).take h1.length = h1 := fun x => List.take_left
  have h0l : 0 < h1.length := by omega
  by_cases hlt2 : i < E.length
  ·have hw : IntKind.i64.wrap ((i : Int) + 1) = (i : Int) + 1 := wrap64 (by omega) (by omega)
   have hwE : IntKind.i64.wrap ((E.length : Int) - 1) = (E.length : Int) - 1 := wrap64 (by omega) (by omega)
   have hwE2 : IntKind.i64.wrap ((E.length : Int) - 2) = (E.length : Int) - 2 := wrap64 (by omega) (by omega)
   have hhid := hown.hide i hlt2
   have hg0 : ∀ x : List AV, (h1 ++ [x])[h1.length]? = some x := fun x => by simp
   by_cases hlast : i + 1 = E.length
   ·have hb : ((i : Int) == (E.length : Int) - 1) = true := by simp; omega
    simp only [hlast, decide_true, Bool.not_true] at hhid
    simp [hlt2, hw, hwE, hb, hhid]
    refine ⟨i + 1, by omega, by omega, ?_⟩
    simp [Leq, hlt1, htk, leqH_refl, h0l]
    done
   ·have hb : ((i : Int) == (E.length : Int) - 1) = false := by simp; omega
    simp only [hlast, decide_false, Bool.not_false] at hhid
    obtain ⟨hf, hc⟩ := hown.pre i (by omega)
    rcases hc with ⟨k1, k2⟩ | ⟨k0, k1, k2, k3⟩
    ·have b1 : (F[i].kind != 67) = false := by simp [k1]
     have b2 : (E[i].kind != 7) = false := by simp [k2]
     simp [hlt2, hw, hwE, hb, hhid, hf, b1, b2, fmC_mk]
     refine ⟨i + 1, by omega, by omega, ?_⟩
     simp [Leq, hlt1, htk, leqH_refl, h0l]
     done
    ·have b1 : (F[i].kind != 67) = true := by simp [k0]
     have b2 : (F[i].kind != 80) = false := by simp [k1]
     have b3 : (E[i].kind != 2) = false := by simp [k2]
     have b4 : ¬ (i : Int) < (E.length : Int) - 2 := by omega
     simp [hlt2, hw, hwE, hwE2, hb, hhid, hf, b1, b2, b3, b4, fmC_mk]
     refine ⟨i + 1, by omega, by omega, ?_⟩
     simp [Leq, hlt1, htk, leqH_refl, h0l]
     done
  ·have : i = E.length := by omega
   subst this
   have hwF : IntKind.i64.wrap ((F.length : Int) - 1) = (F.length : Int) - 1 := wrap64 (by omega) (by omega)
   have haw2 := lawake_c hlt1
   by_cases hF0 : 0 < F.length
   ·have hk := hown.last hF0
    have hn1 : ((F.length : Int) - 1).toNat = F.length - 1 := by omega
    have hb : (F[F.length - 1].kind != f.kind) = false := by simp [hk]
    have hb2 : (0 : Int) <= (F.length : Int) - 1 := by omega
    have hb3 : (F.length : Int) - 1 < (F.length : Int) := by omega
    have hge : (1 : Int) <= (F.length : Int) := by omega
    have hgl : (enc fmC F)[F.length - 1]? = some (fmC F[F.length - 1]) := by unfold enc; rw [List.getElem?_map, List.getElem?_eq_getElem (by omega)]; rfl
    simp [hF0, hwF, hn1, hb, hb2, hb3, h10, hk, fmC_mk, hge, hgl]
    refine xcall_self (by simp) haw2 ?_
    simp
    done
   ·simp [hF0, h10]
    refine xcall_self (by simp) haw2 ?_
    simp
    done
theorem sh_strL : Shape Tryz.prog 23 (fun l : List (List UInt8) => [.sl 1 (enc strC l) none .no]) (fun l => l.length <= maxLen) := Shape.map (shape_slice Tryz.underlying23 (by kernel_rfl) (by decide) sh_str (fun _ => rfl)) id (fun _ => rfl) (fun _ h => h.1)
end Go.Proofs.YtdfgljojemmlcaaGreat.Ax
namespace Go.Proofs.YtdfgljojemmlcaaGreat.rewriteOwn
open Go.ChangeShapes Go.WideShapes Go.ChangeAt Go.RowKit
open Go.ChangeMaps (open_string shut_string)
theorem own : ownKnob Tryz.prog.godebug = none := by kernel_rfl
theorem laidOut : laidOutB Tryz.prog = true := by kernel_rfl
set_option maxRecDepth 100000 in
theorem lifted (os : Os) (started : os.Started) (H : Type) (enc : TypeId × Value -> H) :
  ReturnsInHanded {} Tryz.checked os 4 .any (Rows.rewriteOwnSpec.pre6 enc Tryz.prog Tryz.f4 Rows.rewriteOwnRow.domain false) (Rows.rewriteOwnSpec.post enc Tryz.prog Tryz.f4 false true false false) := by
 refine returnsInHanded_of_change (C := Tryz.checked) own started (by kernel_rfl) Tryz.func4
  (ChangeSpec.witness6 (enc := enc) (C := Tryz.checked) false ⟨#[], #[.slice none 0 0, .slice none 0 0, .slice none 0 0, .int .i64 0, .agg #[.int .u8 0, .int .u8 0, .string ByteArray.empty, .string ByteArray.empty, .string ByteArray.empty, .slice none 0 0, .slice none 0 0, .slice none 0 0, .slice none 0 0, .int .i64 0]], []⟩ 8 (by kernel_rfl) (by kernel_rfl) (by kernel_rfl) (by kernel_rfl)) ?_
 intro W base args ds gs before hval0 hW hcnd _
 have hval : ∀ (j : Nat) t v, Tryz.f4.params[j]? = some t -> args[j]? = some v -> Value.okWide Tryz.prog W .any base t v := hval0
 have hW' := hW
 obtain ⟨p, q, hA0, hV, rfl, hfz, hnd⟩ := hW
 have hA : DataW.TrodAll enc Tryz.prog W 0 (fun _ => true) true Tryz.f4.params.toList args.toList ds p := hA0
 rw [Tryz.params4] at hA hval
 obtain ⟨v0, vs0, d0, ds0, p0, q0, hargs, rfl, rfl, h0, r0⟩ := trodAll_cons hA
 obtain ⟨v1, vs1, d1, ds1, p1, q1, rfl, rfl, rfl, h1, r1⟩ := trodAll_cons r0
 obtain ⟨v2, vs2, d2, ds2, p2, q2, rfl, rfl, rfl, h2, r2⟩ := trodAll_cons r1
 obtain ⟨v3, vs3, d3, ds3, p3, q3, rfl, rfl, rfl, h3, r3⟩ := trodAll_cons r2
 obtain ⟨v4, vs4, d4, ds4, p4, q4, rfl, rfl, rfl, h4, r4⟩ := trodAll_cons r3
 obtain ⟨rfl, rfl, rfl⟩ := trodAll_nil r4
 obtain rfl : args = #[v0, v1, v2, v3, v4] := by cases args; simp_all
 obtain ⟨rfl, rfl⟩ := trodVars_none hV
 have k0 := h0
 have lt0 : ∀ x ∈ p0, x.block < W.heap.size := by obtain ⟨m, hm⟩ := k0; exact DataW.trod_lt m _ _ _ hm
 obtain ⟨a0, ok0, s0⟩ := Ax.arg_slice Tryz.underlying22 Ax.sh_smCL (hval 0 22 v0 rfl rfl) h0
 have k1 := h1
 have lt1 : ∀ x ∈ p1, x.block < W.heap.size := by obtain ⟨m, hm⟩ := k1; exact DataW.trod_lt m _ _ _ hm
 obtain ⟨a1, ok1, s1⟩ := Ax.arg_slice Tryz.underlying23 Ax.sh_strL (hval 1 23 v1 rfl rfl) h1
 have k2 := h2
 have lt2 : ∀ x ∈ p2, x.block < W.heap.size := by obtain ⟨m, hm⟩ := k2; exact DataW.trod_lt m _ _ _ hm
 obtain ⟨a2, ok2, s2⟩ := Ax.arg_slice Tryz.underlying24 Ax.sh_ints (hval 2 24 v2 rfl rfl) h2
 have k3 := h3
 have lt3 : ∀ x ∈ p3, x.block < W.heap.size := by obtain ⟨m, hm⟩ := k3; exact DataW.trod_lt m _ _ _ hm
 obtain ⟨a3, ok3, s3⟩ := Ax.arg_int Tryz.underlying3 (hval 3 3 v3 rfl rfl) h3
 have k4 := h4
 have lt4 : ∀ x ∈ p4, x.block < W.heap.size := by obtain ⟨m, hm⟩ := k4; exact DataW.trod_lt m _ _ _ hm
 obtain ⟨a4, ok4, s4⟩ := Ax.arg_struct Tryz.underlying37 Ax.sh_fmC (hval 4 37 v4 rfl rfl) h4
 clear hA0 hval0
 refine (Ax.law_walk (w := W) (Ax.dom_any W) (Ax.rown_c a0 a1 a2 a3 a4) (by simp) (.cons s0 (.cons s1 (.cons s2 (.cons s3 (.cons s4 .nil)))))).mono fun e W' ⟨he, bel⟩ => ?_
 subst he
 exact ⟨_, rfl, _, _, _, [], _, [], hW', trodAll_mk1 (shut_bool Tryz.underlying4 _), (trodAll_cons_mk (Below.trod laidOut (by kernel_rfl) (of_decide_eq_true (by kernel_rfl)) k0 bel lt0) (trodAll_cons_mk (Below.trod laidOut (by kernel_rfl) (of_decide_eq_true (by kernel_rfl)) k1 bel lt1) (trodAll_cons_mk (Below.trod laidOut (by kernel_rfl) (of_decide_eq_true (by kernel_rfl)) k2 bel lt2) (trodAll_cons_mk (Below.trod laidOut (by kernel_rfl) (of_decide_eq_true (by kernel_rfl)) k3 bel lt3) (trodAll_cons_mk (Below.trod laidOut (by kernel_rfl) (of_decide_eq_true (by kernel_rfl)) k4 bel lt4) trodAll_mk0))))), rfl, bel.frame _, fun h => by cases h⟩
theorem over : Rows.rewriteOwnRow.holds Tryz.pinned (OpenSpec.ofChange Rows.rewriteOwnSpec) :=
 OpenClaim.holds_of_wide 4 Tryz.f4 rfl rfl rfl rfl rfl rfl rfl ⟨rfl, rfl, rfl, rfl, rfl⟩ rfl rfl rfl rfl rfl (by kernel_rfl) Tryz.func4 (by kernel_rfl)
  (of_decide_eq_true (by kernel_rfl)) (by unfold Func.isWrapper; first | (rw [if_pos (by decide +kernel)]; kernel_rfl) | (rw [if_neg (by decide +kernel)]; exact ⟨rfl, rfl⟩))
  (fun os started H enc _ => lifted os started H enc)
theorem proved : Rows.RewriteOwnSaid := over
#print axioms proved
end Go.Proofs.YtdfgljojemmlcaaGreat.rewriteOwn
