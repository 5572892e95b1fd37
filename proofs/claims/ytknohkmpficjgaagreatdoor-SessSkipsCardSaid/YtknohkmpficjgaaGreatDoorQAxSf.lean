import Derived.Test.YtknohkmpficjgaaGreatDoorQAxXr
import Derived.Test.YtknohkmpficjgaaGreatDoorRows
import Derived.Test.YtknohkmpficjgaaGreatDoorQAxSz
import Derived.Test.YtknohkmpficjgaaGreatDoorQAxRo
import Derived.Test.YtknohkmpficjgaaGreatDoorQAxSy
import Derived.Test.YtknohkmpficjgaaGreatDoorQAxSr
import Derived.Test.YtknohkmpficjgaaGreatDoorQAxEr
import Derived.Test.YtknohkmpficjgaaGreatDoorQAxSw
set_option linter.unusedSimpArgs false
set_option linter.unusedVariables false
namespace Go.Proofs.YtknohkmpficjgaaGreatDoor.Ax
open Go.RowKit Go By
def c133 : XFun := ⟨22, (.seq (.ops [⟨(some 3), (.box (.tmp 1)), none⟩, ⟨(some 4), (.assign (.const (.int .u8 0))), none⟩, ⟨(some 5), (.assign (.const (.string (strB [])))), none⟩]) (.seq (.seq (.ops [⟨(some 6), (.move (.tmp 0)), none⟩, ⟨(some 7), (.call 191 [(.tmp 6)]), none⟩, ⟨(some 8), (.un .not (.tmp 7)), none⟩]) (.cond (.tmp 8) (.ops [⟨(some 0), (.assign (.const (.int .u8 73))), none⟩]) .skip)) (.seq (.block 0 (.seq (.ops [⟨(some 10), (.faddr 0 (.tmp 3)), none⟩, ⟨(some 11), (.load1 (.tmp 10)), none⟩, ⟨(some 12), (.bin .eql (.tmp 11) (.const (.int .i64 2))), none⟩, ⟨(some 9), (.assign (.tmp 12)), none⟩]) (.cond (.tmp 9) (.seq (.ops [⟨(some 13), (.move (.tmp 0)), none⟩, ⟨(some 14), (.call 192 [(.tmp 13)]), none⟩, ⟨(some 4), (.assign (.tmp 14)), none⟩, ⟨(some 5), (.assign (.const (.string (strB [66, 69, 71, 73, 78])))), none⟩]) .ret) (.seq (.ops [⟨(some 16), (.loadN 3 (.tmp 3)), none⟩, ⟨(some 17), (.call 134 [(.tmp 16)]), none⟩, ⟨(some 15), (.assign (.tmp 17)), none⟩]) (.cond (.tmp 15) (.seq (.ops [⟨(some 18), (.move (.tmp 0)), none⟩, ⟨(some 19), (.loadN 3 (.tmp 3)), none⟩, ⟨(some 20), (.call 193 [(.tmp 18), (.tmp 19)]), none⟩, ⟨(some 4), (.assign (.const (.int .u8 73))), none⟩, ⟨(some 5), (.assign (.tmp 20)), none⟩]) .ret) .skip))))) (.seq (.ops [⟨(some 21), (.move (.tmp 0)), none⟩, ⟨(some 4), (.assign (.tmp 21)), none⟩, ⟨(some 5), (.assign (.const (.string (strB [])))), none⟩]) .ret)))), [(.move (.tmp 4)), (.move (.tmp 5))]⟩
theorem k133 : cfun Tryz.prog 133 = some c133 := by kernel_rfl
def c49 : XFun := ⟨9, (.seq (.ops [⟨(some 2), (.assign (.const (.int .u8 0))), none⟩]) (.seq (.seq (.ops [⟨(some 3), (.move (.tmp 0)), none⟩, ⟨(some 4), (.bin .eql (.tmp 3) (.const (.int .u8 84))), none⟩, ⟨(some 5), (.move (.tmp 4)), none⟩, ⟨(some 6), (.move (.tmp 0)), (some (5, false))⟩, ⟨(some 7), (.bin .eql (.tmp 6) (.const (.int .u8 69))), (some (5, false))⟩, ⟨(some 8), (.pick (.tmp 5) (.const (.bool true)) (.tmp 7)), none⟩]) (.cond (.tmp 8) (.seq (.ops [⟨(some 2), (.assign (.const (.int .u8 69))), none⟩]) .ret) .skip)) (.seq (.ops [⟨(some 2), (.assign (.const (.int .u8 73))), none⟩]) .ret))), [(.move (.tmp 2))]⟩
theorem k49 : cfun Tryz.prog 49 = some c49 := by kernel_rfl
def c191 : XFun := ⟨13, (.seq (.ops [⟨(some 2), (.assign (.const (.bool false))), none⟩]) (.seq (.ops [⟨(some 3), (.move (.tmp 0)), none⟩, ⟨(some 4), (.bin .eql (.tmp 3) (.const (.int .u8 73))), none⟩, ⟨(some 5), (.move (.tmp 4)), none⟩, ⟨(some 6), (.move (.tmp 0)), (some (5, false))⟩, ⟨(some 7), (.bin .eql (.tmp 6) (.const (.int .u8 84))), (some (5, false))⟩, ⟨(some 8), (.pick (.tmp 5) (.const (.bool true)) (.tmp 7)), none⟩, ⟨(some 9), (.move (.tmp 8)), none⟩, ⟨(some 10), (.move (.tmp 0)), (some (9, false))⟩, ⟨(some 11), (.bin .eql (.tmp 10) (.const (.int .u8 69))), (some (9, false))⟩, ⟨(some 12), (.pick (.tmp 9) (.const (.bool true)) (.tmp 11)), none⟩, ⟨(some 2), (.assign (.tmp 12)), none⟩]) .ret)), [(.move (.tmp 2))]⟩
theorem k191 : cfun Tryz.prog 191 = some c191 := by kernel_rfl
def c192 : XFun := ⟨6, (.seq (.ops [⟨(some 2), (.assign (.const (.int .u8 0))), none⟩]) (.seq (.seq (.ops [⟨(some 3), (.move (.tmp 0)), none⟩, ⟨(some 4), (.bin .eql (.tmp 3) (.const (.int .u8 73))), none⟩]) (.cond (.tmp 4) (.seq (.ops [⟨(some 2), (.assign (.const (.int .u8 84))), none⟩]) .ret) .skip)) (.seq (.ops [⟨(some 5), (.move (.tmp 0)), none⟩, ⟨(some 2), (.assign (.tmp 5)), none⟩]) .ret))), [(.move (.tmp 2))]⟩
theorem k192 : cfun Tryz.prog 192 = some c192 := by kernel_rfl
def c193 : XFun := ⟨12, (.seq (.ops [⟨(some 3), (.box (.tmp 1)), none⟩, ⟨(some 4), (.assign (.const (.string (strB [])))), none⟩]) (.seq (.seq (.ops [⟨(some 5), (.faddr 0 (.tmp 3)), none⟩, ⟨(some 6), (.load1 (.tmp 5)), none⟩, ⟨(some 7), (.bin .eql (.tmp 6) (.const (.int .i64 4))), none⟩, ⟨(some 8), (.move (.tmp 7)), none⟩, ⟨(some 9), (.move (.tmp 0)), (some (8, false))⟩, ⟨(some 10), (.bin .eql (.tmp 9) (.const (.int .u8 69))), (some (8, false))⟩, ⟨(some 11), (.pick (.tmp 8) (.const (.bool true)) (.tmp 10)), none⟩]) (.cond (.tmp 11) (.seq (.ops [⟨(some 4), (.assign (.const (.string (strB [82, 79, 76, 76, 66, 65, 67, 75])))), none⟩]) .ret) .skip)) (.seq (.ops [⟨(some 4), (.assign (.const (.string (strB [67, 79, 77, 77, 73, 84])))), none⟩]) .ret))), [(.move (.tmp 4))]⟩
theorem k193 : cfun Tryz.prog 193 = some c193 := by kernel_rfl
end Go.Proofs.YtknohkmpficjgaaGreatDoor.Ax
namespace Go.Proofs.YtknohkmpficjgaaGreatDoor.Ax
open Go.RowKit Go By Dg
set_option maxRecDepth 10000
theorem txis_c (v : Vb) (ks : List Int) (hk : ks.length <= 1000) (h : List (List AV)) : Contract Tryz.prog 132 [.agg (vbC v), .sl 1 (enc intC ks) none .no] h (.v (.bool (ks.contains v.kind))) h [] := by
 refine contract_of k132 mixed (by simp [c132]) fun hh hargs => ?_
 simp [c132]
 refine xcall_self (by simp) (jhas_c (by omega) _) ?_
 simp [hh]
theorem txexit_c (v : Vb) (h : List (List AV)) : Contract Tryz.prog 134 [.agg (vbC v)] h (.v (.bool ([3, 4].contains v.kind))) h [] := by
 refine contract_of k134 mixed (by simp [c134]) fun hh hargs => ?_
 simp [c134]
 refine xcall_of (txis_c v [3, 4] (by simp) _) (by simp [intC]) (by simp) ?_
 simp [hh]
def txR (s : Int) : Bool := decide (s = 73 \/ s = 84 \/ s = 69)
def txF (s : Int) : Int := if s = 84 \/ s = 69 then 69 else 73
def txS (s : Int) : Int := if txR s = true then s else 73
def txN (s : Int) (k : Int) : Int := if k = 2 then (if txS s = 73 then 84 else txS s) else if k = 3 \/ k = 4 then 73 else txS s
def txBegin : List UInt8 := [66, 69, 71, 73, 78]
def txCommit : List UInt8 := [67, 79, 77, 77, 73, 84]
def txRoll : List UInt8 := [82, 79, 76, 76, 66, 65, 67, 75]
def txT (s : Int) (k : Int) : List UInt8 := if k = 2 then txBegin else if k = 4 \/ (k = 3 /\ s = 69) then txRoll else if k = 3 then txCommit else []
theorem txS_right (s : Int) : txR (txS s) = true := by
 unfold txS
 split
 ·assumption
 ·rfl
theorem txS_69 (s : Int) : txS s = 69 ↔ s = 69 := by
 unfold txS txR
 split
 ·exact Iff.rfl
 ·rename_i h
  simp at h
  omega
theorem txF_right (s : Int) : txR (txF s) = true := by
 unfold txF txR
 split <;> simp
theorem txN_right (s k : Int) : txR (txN s k) = true := by
 have := txS_right s
 unfold txN
 split
 ·split
  ·rfl
  ·assumption
 ·split
  ·rfl
  ·assumption
theorem txright_c (s : Int) (h : List (List AV)) : Contract Tryz.prog 191 [.v (.int .u8 s)] h (.v (.bool (txR s))) h [] := by
 refine contract_of k191 mixed (by simp [c191]) fun hh hargs => ?_
 by_cases h1 : s = 73
 ·simp [c191, h1, hh, txR]
 by_cases h2 : s = 84
 ·simp [c191, h1, h2, hh, txR]
 by_cases h3 : s = 69 <;> simp [c191, h1, h2, h3, hh, txR]
theorem txfail_c (s : Int) (h : List (List AV)) : Contract Tryz.prog 49 [.v (.int .u8 s)] h (.v (.int .u8 (txF s))) h [] := by
 refine contract_of k49 mixed (by simp [c49]) fun hh hargs => ?_
 by_cases h2 : s = 84
 ·simp [c49, h2, hh, txF]
 by_cases h3 : s = 69 <;> simp [c49, h2, h3, hh, txF]
theorem txbegun_c (s : Int) (h : List (List AV)) : Contract Tryz.prog 192 [.v (.int .u8 s)] h (.v (.int .u8 (if s = 73 then 84 else s))) h [] := by
 refine contract_of k192 mixed (by simp [c192]) fun hh hargs => ?_
 by_cases h2 : s = 73 <;> simp [c192, h2, hh]
theorem txended_c (s : Int) (v : Vb) (h : List (List AV)) : Contract Tryz.prog 193 [.v (.int .u8 s), .agg (vbC v)] h (.v (.string (strB (if v.kind = 4 \/ s = 69 then txRoll else txCommit)))) h [] := by
 refine contract_of k193 mixed (by simp [c193]) fun hh hargs => ?_
 by_cases h2 : v.kind = 4
 ·simp [c193, h2, hh, txRoll, leqH_take]
 by_cases h3 : s = 69 <;> simp [c193, h2, h3, hh, txRoll, txCommit, leqH_take]
theorem txnext_c (s : Int) (v : Vb) (h : List (List AV)) : Contract Tryz.prog 133 [.v (.int .u8 s), .agg (vbC v)] h (.tup [.v (.int .u8 (txN s v.kind)), .v (.string (strB (txT s v.kind)))]) h [] := by
 refine contract_of k133 mixed (by simp [c133]) fun hh hargs => ?_
 have h69 := txS_69 s
 unfold txN txT
 simp [c133]
 refine xcall_self (by simp) (txright_c s _) ?_
 cases hr : txR s with
 | true =>
  have e : txS s = s := by unfold txS; rw [if_pos hr]
  rw [e]
  by_cases k2 : v.kind = 2
  ·simp [k2]
   refine xcall_self (by simp) (txbegun_c s _) ?_
   simp [hh, txBegin, leqH_take]
  have k2' : (v.kind == 2) = false := by simpa using k2
  simp [k2, k2']
  refine xcall_self (by simp) (txexit_c v _) ?_
  by_cases k3 : v.kind = 3
  ·simp [k3]
   refine xcall_self (by simp) (txended_c s v _) ?_
   by_cases h3 : s = 69 <;> simp [k3, h3, hh, leqH_take]
  by_cases k4 : v.kind = 4
  ·simp [k4]
   refine xcall_self (by simp) (txended_c s v _) ?_
   simp [k4, hh, leqH_take]
  have k3' : (v.kind == 3) = false := by simpa using k3
  have k4' : (v.kind == 4) = false := by simpa using k4
  simp [k3, k4, k3', k4', hh, leqH_take]
 | false =>
  have e : txS s = 73 := by unfold txS; rw [if_neg (by simp [hr])]
  have hne : ¬ s = 69 := fun e2 => by rw [e2] at hr; cases hr
  rw [e]
  by_cases k2 : v.kind = 2
  ·simp [k2]
   refine xcall_self (by simp) (txbegun_c 73 _) ?_
   simp [hh, txBegin, leqH_take]
  have k2' : (v.kind == 2) = false := by simpa using k2
  simp [k2, k2']
  refine xcall_self (by simp) (txexit_c v _) ?_
  by_cases k3 : v.kind = 3
  ·simp [k3]
   refine xcall_self (by simp) (txended_c 73 v _) ?_
   simp [k3, hne, hh, leqH_take]
  by_cases k4 : v.kind = 4
  ·simp [k4]
   refine xcall_self (by simp) (txended_c 73 v _) ?_
   simp [k4, hh, leqH_take]
  have k3' : (v.kind == 3) = false := by simpa using k3
  have k4' : (v.kind == 4) = false := by simpa using k4
  simp [k3, k4, k3', k4', hh, leqH_take]
end Go.Proofs.YtknohkmpficjgaaGreatDoor.Ax
namespace Go.Proofs.YtknohkmpficjgaaGreatDoor.Ax
open Go.RowKit Go By
set_option maxRecDepth 10000
section
variable {L : List (Nat × List AV)} {h : List (List AV)} {i : Nat} {Z : Zs}
theorem SsG.does (g : SsG [] h i Z) {H : List (List AV)} (hH : ∀ q < h.length, q ∉ Z.vars i -> H[q]? = h[q]?) (hlH : h.length <= H.length) {L' : List (Nat × List AV)} {h' : List (List AV)} {Z' : Zs} (g' : SsG L' h' i Z') {wr w0 : List Nat} (hw : ∀ q ∈ wr, q < H.length -> q ∈ Z.S.vars)
  (hs : ∀ q < H.length, q ∉ Z.S.vars -> h'[q]? = H[q]?) (hv : ∀ q ∈ Z'.S.vars, q ∈ Z.S.vars \/ H.length <= q) (hl : H.length <= h'.length) (hown : Z'.own i = Z.own i) (hp : Z'.p = Z.p) (hw0 : ∀ q ∈ w0, q < h.length -> q ∈ Z.own i)
  {f : FuncId} {args : List AV} {v : AV} {r : List (List AV) -> AV -> Prop} (k : Contract Tryz.prog f args h v h' (wr ++ w0)) (hr : r h' v) : DoesS f args h i Z r Z' := by
 refine ⟨h', wr ++ w0, v, k, hr, g'.none, fun q hq hlt => ?_, by omega, fun q hq hn => ?_, fun q hq => ?_⟩
 ·rcases List.mem_append.1 hq with h1 | h1
  ·exact Zs.vars_mem.2 (.inr (.inr (hw q h1 (by omega))))
  ·exact Zs.vars_mem.2 (.inr (.inl (hw0 q h1 hlt)))
 ·rw [hs q (by omega) fun hh => hn (Zs.vars_mem.2 (.inr (.inr hh))), hH q hq hn]
 ·rcases Zs.vars_mem.1 hq with h1 | h1 | h1
  ·exact .inl (Zs.vars_mem.2 (.inl (h1.trans hp)))
  ·exact .inl (Zs.vars_mem.2 (.inr (.inl (hown ▸ h1))))
  ·rcases hv q h1 with h2 | h2
   ·exact .inl (Zs.vars_mem.2 (.inr (.inr h2)))
   ·exact .inr (by omega)
theorem SsG.idle (g : SsG [] h i Z) {f : FuncId} {args : List AV} {v : AV} {r : List (List AV) -> AV -> Prop} (k : Contract Tryz.prog f args h v h []) (hr : r h v) : DoesS f args h i Z r Z :=
 ⟨h, [], v, k, hr, g, (fun q hq => by cases hq), Nat.le_refl _, (fun _ _ _ => rfl), (fun q hq => .inl hq)⟩
theorem SsG.at_ (g : SsG L h i Z) (xs : List (List AV)) : (h ++ xs)[i]? = some Z.top := by rw [List.getElem?_append_left g.i_lt]; exact g.top
def descR (Z : Zs) (f : Fm) : List Bk × Er :=
 if f.what = 83 then (match stmtO Z f.name with
  | (_, some e) => ([], some e)
  | (s, none) => ([⟨116, 0, [], [], [], 0, 0, s.oids, [], [], []⟩, desB s], none))
 else if f.what = 80 then (match portO Z f.portal with
  | (_, some e) => ([], some e)
  | (p, none) => ([desB ⟨p.text, p.oids⟩], none))
 else ([], none)
theorem sdescribe_c (g : SsG [] h i Z) (ho : PsOk Z.S) (hz : Short Z) (hp : ShortP Z) (f : Fm) (hn : f.name.length <= 100000) (hpn : f.portal.length <= 100000) : Contract Tryz.prog 45 [.box i 0, .agg (fmC f)] h (stepV (descR Z f).1 (descR Z f).2) h [] := by
 have g1 := g.app (c := fmC f) (by simp) (by simp [fmC_mk])
 have hst := sstmt_c g1 hz f.name hn
 have hpt := sport_c g1 ho hp f.portal hpn
 have hss : (stmtO Z f.name).1.text.length <= 100000 /\ (stmtO Z f.name).1.oids.length <= 1000 := by
  unfold stmtO
  cases hg : Z.get f.name with
  | none => simp
  | some s => exact hz.get hg
 have hsp : (portO Z f.portal).1.text.length <= 100000 := by
  unfold portO
  cases hg : Z.S.get f.portal with
  | none => simp [zPt]
  | some x => obtain ⟨y, hy, _, rfl⟩ := get_mem hg; exact hp y hy
 refine contract_of k45 mixed (by simp [c45]) fun hh hargs => ?_
 unfold descR
 by_cases w83 : f.what = 83
 ·rw [if_pos w83]
  obtain ⟨⟨s, o⟩, hso⟩ : ∃ x, x = stmtO Z f.name := ⟨_, rfl⟩
  rw [<- hso] at hst hss ⊢
  dsimp only at hss
  simp only [sxC] at hst
  simp [c45, w83]
  refine xcall_self (by simp) hst ?_
  cases o with
  | some e =>
   obtain ⟨c, t⟩ := e
   simp [stepV, hh, leqH_take]
  | none =>
   have hd := fun H => sdesc_c s hss.1 H
   simp only [sxC] at hd
   simp
   refine xcall_self (by simp) (jclone_c s.oids (by omega) _) ?_
   simp
   refine xcall_self (by simp) (hd _) ?_
   simp [stepV, hh, leqH_take, bkC_mk]
   done
 ·rw [if_neg w83]
  have w83' : (f.what == 83) = false := by simpa using w83
  by_cases w80 : f.what = 80
  ·rw [if_pos w80]
   obtain ⟨⟨p, o⟩, hso⟩ : ∃ x, x = portO Z f.portal := ⟨_, rfl⟩
   rw [<- hso] at hpt hsp ⊢
   simp only [ptV, ptC] at hpt
   simp [c45, w83, w83', w80]
   refine xcall_self (by simp) hpt ?_
   cases o with
   | some e =>
    obtain ⟨c, t⟩ := e
    simp [stepV, hh, leqH_take]
   | none =>
    have hd := fun H => sdesc_c ⟨p.text, p.oids⟩ hsp H
    simp only [sxC] at hd
    simp
    refine xcall_self (by simp) (hd _) ?_
    simp [stepV, hh, leqH_take]
    done
  ·rw [if_neg w80]
   have w80' : (f.what == 80) = false := by simpa using w80
   simp [c45, w83, w83', w80, w80', hh, leqH_take, stepV]
def arityC : List UInt8 := [48, 56, 80, 48, 49]
def cursorC : List UInt8 := [52, 50, 80, 48, 51]
def bindPt (s : Sx) (f : Fm) : Pt := ⟨s.text, s.oids, f.params, [], false, false⟩
def bindO (Z : Zs) (f : Fm) : Er := match stmtO Z f.name with
 | (_, some e) => some e
 | (s, none) => if f.params.length ≠ s.oids.length then some (arityC, arityL f.params.length f.name s.oids.length) else if f.portal ≠ [] /\ (Z.S.get f.portal).isSome = true then some (cursorC, cursL f.portal) else none
theorem stmtO_none {Z : Zs} {k : List UInt8} {s : Sx} (h : stmtO Z k = (s, none)) : Z.get k = some s := by
 unfold stmtO at h
 cases hg : Z.get k with
 | none => rw [hg] at h; cases h
 | some y => rw [hg] at h; injection h with h1 h2; rw [h1]
theorem sbind_d (g : SsG [] h i Z) (ho : PsOk Z.S) (hz : Short Z) (f : Fm) (hn : f.name.length <= 100000) (hpn : f.portal.length <= 100000) (hps : f.params.length <= 1000 /\ ∀ c ∈ f.params, c.2.length <= 100000) :
  ∃ Z', DoesS 44 [.box i 0, .agg (fmC f)] h i Z (fun _ v => v = stepV [pB 50] (bindO Z f)) Z' /\ (bindO Z f ≠ none -> Z' = Z) /\ (bindO Z f = none -> ∃ x s, Z.get f.name = some s /\ x.p = bindPt s f /\ Z' = { Z with S := Z.S.put f.portal x }) := by
 have g1 := g.app (c := fmC f) (by simp) (by simp [fmC_mk])
 have hst := sstmt_c g1 hz f.name hn
 have ni := g.ni
 have oi := g.oi
 obtain ⟨⟨s, o⟩, hso⟩ : ∃ x, x = stmtO Z f.name := ⟨_, rfl⟩
 rw [<- hso] at hst
 have hsl : s.text.length <= 100000 /\ s.oids.length <= 1000 := by
  have : s = (stmtO Z f.name).1 := by rw [<- hso]
  rw [this]
  unfold stmtO
  cases hg : Z.get f.name with
  | none => simp
  | some s => exact hz.get hg
 unfold bindO
 rw [<- hso]
 have g2 := g1.app (c := sxC s) (by simp [sxC]) (by simp [sxC])
 have e2 : ∀ xs, (h ++ xs)[i]? = some Z.top := fun xs => g.at_ xs
 simp only [sxC] at hst g2
 cases o with
 | some e =>
  obtain ⟨c, t⟩ := e
  refine ⟨Z, g.idle (v := stepV [pB 50] (some (c, t))) ?_ rfl, fun _ => rfl, fun hh => by cases hh⟩
  refine contract_of k44 mixed (by simp [c44]) fun hh hargs => ?_
  simp [c44]
  refine xcall_self (by simp) hst ?_
  simp [stepV, hh, leqH_take]
 | none =>
  by_cases hne : f.params.length = s.oids.length
  ·have hne' : ((f.params.length : Int) != (s.oids.length : Int)) = false := by simp [hne]
   by_cases hcur : f.portal ≠ [] /\ (Z.S.get f.portal).isSome = true
   ·have hres : (if f.params.length ≠ s.oids.length then some (arityC, arityL f.params.length f.name s.oids.length) else if f.portal ≠ [] /\ (Z.S.get f.portal).isSome = true then some (cursorC, cursL f.portal) else none : Er) = some (cursorC, cursL f.portal) := by rw [if_neg (by simp [hne]), if_pos hcur]
    dsimp only
    rw [hres]
    obtain ⟨x, hx⟩ := Option.isSome_iff_exists.1 hcur.2
    refine ⟨Z, g.idle (v := stepV [pB 50] (some (cursorC, cursL f.portal))) ?_ rfl, fun _ => rfl, fun hh => by cases hh⟩
    have kp := pput_twice g2.por hcur.1 hx (bindPt s f)
    simp only [ptV, ptC, bindPt, List.append_assoc, List.singleton_append, List.cons_append, List.nil_append] at kp
    refine contract_of k44 mixed (by simp [c44]) fun hh hargs => ?_
    simp [c44]
    refine xcall_self (by simp) hst ?_
    simp [hne', hne, e2, Zs.top_mk]
    refine xcall_of kp (by simp) (by simp) ?_
    simp
    refine xcall_self (by simp) (tcurs_c f.portal hpn _) ?_
    simp [stepV, hh, leqH_take, cursorC]
   ·have hres : (if f.params.length ≠ s.oids.length then some (arityC, arityL f.params.length f.name s.oids.length) else if f.portal ≠ [] /\ (Z.S.get f.portal).isSome = true then some (cursorC, cursL f.portal) else none : Er) = none := by rw [if_neg (by simp [hne]), if_neg hcur]
    dsimp only
    rw [hres]
    have hc : f.portal = [] \/ Z.S.get f.portal = none := by
     by_cases hp0 : f.portal = []
     ·exact .inl hp0
     ·right
      cases hg : Z.S.get f.portal with
      | none => rfl
      | some x => exact absurd ⟨hp0, by rw [hg]; rfl⟩ hcur
    have hfit : (bindPt s f).fit := ⟨by show s.text.length <= _; omega, by show s.oids.length <= _; omega, ⟨by show f.params.length <= _; omega, fun c hcm => by have := hps.2 c hcm; omega⟩, ⟨by simp [bindPt], fun r hr => by simp [bindPt] at hr⟩⟩
    obtain ⟨x, hx, dp⟩ := pput_d g2.por ho (k := f.portal) (by omega) hc hfit
    obtain ⟨h', wr, kp, g', ht, hl, hw, hs, hv⟩ := g2.byP dp
    have t1 := ht (h.length, fmC f) (by simp)
    have t2 := ht ((h ++ [fmC f]).length, [AV.v (.string (strB s.text)), .sl 1 (enc intC s.oids) none .no]) (by simp)
    obtain ⟨o1, _⟩ := g2.off hw
    simp only [List.length_append, List.length_cons, List.length_nil, Nat.zero_add] at t1 t2
    simp only [ptV, ptC, bindPt, List.append_assoc, List.singleton_append, List.cons_append, List.nil_append] at kp
    have hgh := g'.hh
    have hl' : h.length + 1 + 1 <= h'.length := by simpa using hl
    refine ⟨_, g.does (H := h ++ [fmC f] ++ [[AV.v (.string (strB s.text)), .sl 1 (enc intC s.oids) none .no]]) (fun q hq _ => by rw [List.append_assoc, List.getElem?_append_left hq]) (by simp) g' hw hs hv hl rfl rfl (w0 := []) (fun q hq => by cases hq) (v := stepV [pB 50] none) ?_ rfl, fun hh => absurd rfl hh, fun _ => ⟨x, s, stmtO_none hso.symm, hx, rfl⟩⟩
    refine contract_of k44 mixed (by simp [c44]) fun hh hargs => ?_
    simp [c44]
    refine xcall_self (by simp) hst ?_
    simp [hne', hne, e2, Zs.top_mk]
    refine xcall_of kp (by simp) (by simp) ?_
    simp [stepV, hgh, leqH_take, t1, t2, o1, pB, bkC_mk]
    refine ⟨by omega, fun q hq _ => hq.resolve_right (by omega)⟩
  ·have hne2 : ¬ (f.params.length : Int) = (s.oids.length : Int) := by omega
   have hres : (if f.params.length ≠ s.oids.length then some (arityC, arityL f.params.length f.name s.oids.length) else if f.portal ≠ [] /\ (Z.S.get f.portal).isSome = true then some (cursorC, cursL f.portal) else none : Er) = some (arityC, arityL f.params.length f.name s.oids.length) := if_pos hne
   dsimp only
   rw [hres]
   refine ⟨Z, g.idle (v := stepV [pB 50] (some (arityC, arityL f.params.length f.name s.oids.length))) ?_ rfl, fun _ => rfl, fun hh => by cases hh⟩
   refine contract_of k44 mixed (by simp [c44]) fun hh hargs => ?_
   simp [c44]
   refine xcall_self (by simp) hst ?_
   simp [hne2]
   refine xcall_self (by simp) (tarity_c _ _ f.name (by omega) (by omega) hn _) ?_
   simp [stepV, hh, leqH_take, arityC]
end
end Go.Proofs.YtknohkmpficjgaaGreatDoor.Ax
namespace Go.Proofs.YtknohkmpficjgaaGreatDoor.Ax
open Go.RowKit Go By YtknohkmpficjgaaGreatDoor.Nm Dg
set_option maxRecDepth 10000
structure BkG (c : Bool) (m : Bk) : Prop where
 fit : BkFit m
 kind : m.kind ≠ 90
 ok : c = true -> m.kind = 69 \/ checkB m = 0
theorem bkG_pB (c : Bool) {k : Int} (h : k = 49 \/ k = 50 \/ k = 51 \/ k = 73 \/ k = 110 \/ k = 115) : BkG c (pB k) := by
 refine ⟨by simp [BkFit, pB], ?_, fun _ => .inr ?_⟩
 ·show k ≠ 90
  omega
 ·rcases h with rfl | rfl | rfl | rfl | rfl | rfl <;> decide
theorem bkG_er (c : Bool) (a b : List UInt8) : BkG c (erF a b) := ⟨by simp [BkFit, erF], by simp [erF], fun _ => .inl rfl⟩
theorem check_of {m : Bk} (hk : kindB m.kind = true) (hr : rstatB m = true) (hb : blistsB m = true) (hc : bcleanB m = true) (hn : bnumB m = true) (hs : saidB m = m) : checkB m = 0 := by
 unfold checkB
 rw [hk, hr, hb, hc, hn, hs, sameB_refl]; rfl
def tgB (t : List UInt8) : Bk := ⟨67, 0, t, [], [], 0, 0, [], [], [], []⟩
theorem bkG_tag (c : Bool) {t : List UInt8} (h : cleanB t = true) : BkG c (tgB t) := by
 refine ⟨by simp [BkFit, tgB], by simp [tgB], fun _ => .inr (check_of (by decide : kindB 67 = true) rfl rfl ?_ (by decide : bnumB ⟨67, 0, [], [], [], 0, 0, [], [], [], []⟩ = true) rfl)⟩
 show (cleanB t && (cleanB [] && cleanB [])) = true
 rw [h]; rfl
theorem textL_cleanS (k : Nat) : cleanB (Dg.textL (k : Int)) = true := by
 unfold Dg.textL cleanB
 rw [if_neg (by omega), Int.toNat_natCast]
 have h := Dg.digsN_all k
 simp only [Bool.not_eq_true', List.contains_eq_mem, decide_eq_false_iff_not]
 intro h0
 have := List.all_eq_true.1 h 0 h0
 revert this; decide
theorem bkG_end (c : Bool) (n : Nat) (more : Bool) : BkG c (endB n more) := by
 unfold endB
 split
 ·exact bkG_pB c (by simp)
 ·refine bkG_tag c ?_
  have := textL_cleanS n
  unfold cleanB at this ⊢
  simpa using this
theorem colK_okS (i : Nat) : colB (colK (i : Int)) = true := by
 have h1 : cleanB (99 :: Dg.textL (i : Int)) = true := by
  have := textL_cleanS i
  unfold cleanB at this ⊢
  simpa using this
 unfold colB colK
 simp only [h1, Bool.true_and]
 decide
theorem bkG_des (c : Bool) (s : Sx) : BkG c (desB s) := by
 unfold desB
 split
 ·obtain ⟨h0, h1⟩ := heldI_range (colsQ (says s.text) s.oids.length)
  obtain ⟨k, hk⟩ : ∃ k, k = (heldI (colsQ (says s.text) s.oids.length)).toNat := ⟨_, rfl⟩
  rw [<- hk]
  have hl := colsK_len k
  have hall : (colsK k).all colB = true := List.all_eq_true.2 fun c hc => by
   unfold colsK at hc
   obtain ⟨j, _, rfl⟩ := List.mem_map.1 hc
   exact colK_okS (j + 1)
  refine ⟨⟨by simp, by show (colsK k).length <= _; omega, by simp, by simp, by simp⟩, by simp, fun _ => .inr (check_of (by decide : kindB 84 = true) rfl ?_ rfl (by decide : bnumB ⟨84, 0, [], [], [], 0, 0, [], [], [], []⟩ = true) rfl)⟩
  have hfew : fewB ⟨84, 0, [], [], [], 0, 0, [], colsK k, [], []⟩ = true := by
   unfold fewB
   simp only [decide_eq_true_eq]
   refine ⟨by simp, ?_, by simp, by simp⟩
   omega
  unfold blistsB
  rw [hfew]
  show (true && (([] : List Int).all (unsB 4) && (([] : List Cl).all cellB && ((colsK k).all colB && ([] : List Fi).all fieldB)))) = true
  rw [hall]; rfl
 ·exact bkG_pB c (by simp)
def tyB (l : List Int) : Bk := ⟨116, 0, [], [], [], 0, 0, l, [], [], []⟩
theorem bkG_types (c : Bool) {l : List Int} (hl : l.length <= 1000) (h : c = true -> l.all (unsB 4) = true) : BkG c (tyB l) := by
 refine ⟨⟨by show l.length <= _; omega, by simp [tyB], by simp [tyB], by simp [tyB], by simp [tyB]⟩, by simp [tyB], fun hc => .inr (check_of (by decide : kindB 116 = true) rfl ?_ rfl (by decide : bnumB ⟨116, 0, [], [], [], 0, 0, [], [], [], []⟩ = true) rfl)⟩
 have hfew : fewB (tyB l) = true := by
  unfold fewB tyB
  simp only [decide_eq_true_eq]
  refine ⟨?_, by simp, by simp, by simp⟩
  omega
 unfold blistsB
 rw [hfew]
 show (true && (l.all (unsB 4) && (([] : List Cl).all cellB && (([] : List Co).all colB && ([] : List Fi).all fieldB)))) = true
 rw [h hc]; rfl
def CellsF (c : Bool) (r : List Cl) : Prop := r.length <= 1000 /\ ∀ x ∈ r, x.2.length <= 1000 /\ (c = true -> cellB x = true)
theorem bkG_row (c : Bool) {r : List Cl} (h : CellsF c r) : BkG c (rowB r) := by
 obtain ⟨h1, h2⟩ := h
 refine ⟨⟨by simp [rowB], by simp [rowB], by show r.length <= _; omega, by simp [rowB], fun x hx => by have := (h2 x hx).1; omega⟩, by simp [rowB], fun hc => .inr (check_of (by decide : kindB 68 = true) rfl ?_ rfl (by decide : bnumB ⟨68, 0, [], [], [], 0, 0, [], [], [], []⟩ = true) rfl)⟩
 have hfew : fewB (rowB r) = true := by
  unfold fewB rowB
  simp only [decide_eq_true_eq]
  refine ⟨by simp, by simp, ?_, by simp⟩
  omega
 have hall : r.all cellB = true := List.all_eq_true.2 fun x hx => (h2 x hx).2 hc
 unfold blistsB
 rw [hfew]
 show (true && (([] : List Int).all (unsB 4) && (r.all cellB && (([] : List Co).all colB && ([] : List Fi).all fieldB)))) = true
 rw [hall]; rfl
def RowsF (c : Bool) (l : List (List Cl)) : Prop := l.length <= 1000 /\ ∀ r ∈ l, CellsF c r
theorem bkG_told (c : Bool) {l : List (List Cl)} (h : RowsF c l) (more : Bool) : ∀ m ∈ toldL l more, BkG c m := fun m hm => by
 unfold toldL at hm
 rcases List.mem_append.1 hm with hm | hm
 ·obtain ⟨r, hr, rfl⟩ := List.mem_map.1 hm
  exact bkG_row c (h.2 r hr)
 ·rw [List.mem_singleton.1 hm]; exact bkG_end c _ _
theorem RowsF.fit {c : Bool} {l : List (List Cl)} (h : RowsF c l) : RowsFit l := ⟨by have := h.1; omega, fun r hr => ⟨by have := (h.2 r hr).1; omega, fun x hx => by have := ((h.2 r hr).2 x hx).1; omega⟩⟩
theorem RowsF.told {c : Bool} {l : List (List Cl)} (h : RowsF c l) : l.length <= 1000000 /\ ∀ r ∈ l, r.length <= 1000000 /\ ∀ x ∈ r, x.2.length <= 140737488351232 := ⟨by have := h.1; omega, fun r hr => ⟨by have := (h.2 r hr).1; omega, fun x hx => by have := ((h.2 r hr).2 x hx).1; omega⟩⟩
theorem RowsF.sub {c : Bool} {l m : List (List Cl)} (h : RowsF c l) (hs : m.Sublist l) : RowsF c m := ⟨Nat.le_trans hs.length_le h.1, fun r hr => h.2 r (hs.subset hr)⟩
theorem cellB_text (n : Nat) (hn : n <= 1000000) : (Dg.textL (n : Int)).length <= 1000 /\ cellB (false, Dg.textL (n : Int)) = true := by
 have := dtext_len (n : Int) (by omega) (by omega)
 refine ⟨by omega, ?_⟩
 unfold cellB
 simp; omega
theorem rowsF_V (c : Bool) (v : Vb) (n : Nat) (hn : n <= 100000) {ps : List Cl} (hp : CellsF c ps) : RowsF c (rowsV v n ps) := by
 unfold rowsV
 split
 ·obtain ⟨h0, h1⟩ := heldI_range v.n
  have hl := rowsK_len (heldI v.n).toNat
  refine ⟨by omega, fun r hr => ?_⟩
  unfold rowsK at hr
  obtain ⟨j, hj, rfl⟩ := List.mem_map.1 hr
  have hj2 := List.mem_range.1 hj
  obtain ⟨q1, q2⟩ := cellB_text (j + 1) (by omega)
  rw [show ((j + 1 : Nat) : Int) = (j : Int) + 1 by omega] at q1 q2
  exact ⟨by simp [rowK], fun x hx => by rw [List.mem_singleton.1 hx]; exact ⟨q1, fun _ => q2⟩⟩
 ·split
  ·exact ⟨by simp, fun r hr => by rw [List.mem_singleton.1 hr]; exact hp⟩
  ·split
   ·obtain ⟨q1, q2⟩ := cellB_text (n + 1) (by omega)
    rw [show ((n + 1 : Nat) : Int) = (n : Int) + 1 by omega] at q1 q2
    exact ⟨by simp, fun r hr => by rw [List.mem_singleton.1 hr]; exact ⟨by simp, fun x hx => by rw [List.mem_singleton.1 hx]; exact ⟨q1, fun _ => q2⟩⟩⟩
   ·exact ⟨by simp, fun r hr => by cases hr⟩
theorem nextV_le (v : Vb) (n : Nat) : nextV v n <= n + 1 := by unfold nextV; split <;> omega
structure FmS (c : Bool) (f : Fm) : Prop where
 name : f.name.length <= 1000
 portal : f.portal.length <= 1000
 text : f.text.length <= 1000
 oids : f.oids.length <= 1000 /\ (c = true -> f.oids.all (unsB 4) = true)
 params : CellsF c f.params
structure PtF (c : Bool) (p : Pt) : Prop where
 text : p.text.length <= 1000
 oids : p.oids.length <= 1000
 ps : CellsF c p.ps
 rows : RowsF c p.rows
structure ZOk (c : Bool) (n : Nat) (Z : Zs) : Prop where
 en : Z.T.n <= n
 ko : KE.Ok Z.clock Z.st
 len : Z.st.length <= n
 sx : ∀ x ∈ Z.st, x.val.text.length <= 1000 /\ x.val.oids.length <= 1000 /\ (c = true -> x.val.oids.all (unsB 4) = true)
 po : PsOk Z.S
 pf : ∀ x ∈ Z.S.e, PtF c x.val.p
 st : txR Z.status = true
section
variable {c : Bool} {n : Nat} {Z : Zs}
theorem ZOk.short (z : ZOk c n Z) : Short Z := fun x hx => by have := z.sx x hx; exact ⟨by omega, by omega⟩
theorem ZOk.shortP (z : ZOk c n Z) : ShortP Z := fun x hx => by have := (z.pf x hx).text; omega
theorem ZOk.mono (z : ZOk c n Z) {m : Nat} (h : n <= m) : ZOk c m Z := ⟨Nat.le_trans z.en h, z.ko, Nat.le_trans z.len h, z.sx, z.po, z.pf, z.st⟩
theorem ZOk.get (z : ZOk c n Z) {k : List UInt8} {s : Sx} (h : Z.get k = some s) : s.text.length <= 1000 /\ s.oids.length <= 1000 /\ (c = true -> s.oids.all (unsB 4) = true) := by
 obtain ⟨x, hx, _, rfl⟩ := get_mem h
 exact z.sx x hx
theorem ZOk.getP (z : ZOk c n Z) {k : List UInt8} {x : PV} (h : Z.S.get k = some x) : PtF c x.p := by
 obtain ⟨y, hy, _, rfl⟩ := get_mem h
 exact z.pf y hy
theorem ZOk.del (z : ZOk c n Z) (k : List UInt8) : ZOk c n (Z.del k) := ⟨z.en, KE.del_ok z.ko k, Nat.le_trans (KE.del_len _ _) z.len, fun x hx => z.sx x ((KE.mem_del z.ko).1 hx).1, z.po, z.pf, z.st⟩
theorem ZOk.put (z : ZOk c n Z) (k : List UInt8) {s : Sx} (h : s.text.length <= 1000 /\ s.oids.length <= 1000 /\ (c = true -> s.oids.all (unsB 4) = true)) : ZOk c (n + 1) (Z.put k s) := by
 refine ⟨Nat.le_succ_of_le z.en, KE.put_ok z.ko k s, ?_, fun x hx => ?_, z.po, z.pf, z.st⟩
 ·show (KE.put k Z.clock s Z.st).length <= _
  rw [KE.put_len]
  have := z.len
  split <;> omega
 ·rcases mem_kput z.ko hx with ⟨_, e⟩ | ⟨_, h2⟩
  ·rw [e]; exact h
  ·exact z.sx x h2
theorem ZOk.setS (z : ZOk c n Z) {S : Ps} (ho : PsOk S) (hf : ∀ x ∈ S.e, PtF c x.val.p) : ZOk c n { Z with S := S } := ⟨z.en, z.ko, z.len, z.sx, ho, hf, z.st⟩
theorem ZOk.clear (z : ZOk c n Z) : ZOk c n { Z with S := Z.S.clear } := z.setS PsOk.clear (fun x hx => by cases hx)
theorem ZOk.delP (z : ZOk c n Z) (k : List UInt8) : ZOk c n { Z with S := Z.S.del k } := z.setS (z.po.del k) (fun x hx => z.pf x ((KE.mem_del z.po.ok).1 hx).1)
theorem PtF.fit {p : Pt} (h : PtF c p) : p.fit := ⟨by have := h.text; omega, by have := h.oids; omega, ⟨by have := h.ps.1; omega, fun x hx => by have := (h.ps.2 x hx).1; omega⟩, h.rows.fit⟩
theorem ZOk.putP (z : ZOk c n Z) (k : List UInt8) {x : PV} (hx : PtF c x.p) : ZOk c n { Z with S := Z.S.put k x } := z.setS (z.po.put k hx.fit) (fun y hy => by
 rcases mem_kput z.po.ok hy with ⟨_, e⟩ | ⟨_, h2⟩
 ·rw [e]; exact hx
 ·exact z.pf y h2)
theorem ZOk.setT (z : ZOk c n Z) {s : Int} (h : txR s = true) (sk ov : Bool) : ZOk c n { Z with status := s, skips := sk, over := ov } := ⟨z.en, z.ko, z.len, z.sx, z.po, z.pf, h⟩
theorem ZOk.setE (z : ZOk c n Z) {m : Nat} (h : m <= n + 1) : ZOk c (n + 1) { Z with T := { Z.T with n := m } } := ⟨h, z.ko, Nat.le_succ_of_le z.len, z.sx, z.po, z.pf, z.st⟩
theorem ZOk.parse1 (z : ZOk c n Z) (f : Fm) : ZOk c n (parse1 Z f) := by
 unfold Ax.parse1
 split
 ·exact z.del _
 ·exact z
theorem ZOk.parse (z : ZOk c n Z) {f : Fm} (hf : FmS c f) : ZOk c (n + 1) (parseZ Z f) := by
 unfold parseZ
 split
 ·exact (z.parse1 f).mono (Nat.le_succ _)
 ·split
  ·exact (z.parse1 f).mono (Nat.le_succ _)
  ·exact (z.parse1 f).put _ ⟨hf.text, hf.oids.1, hf.oids.2⟩
theorem ZOk.close (z : ZOk c n Z) (f : Fm) : ZOk c n (closeZ Z f) := by
 unfold closeZ
 split
 ·exact z.del _
 ·split
  ·exact z.delP _
  ·exact z
theorem bkG_desc (z : ZOk c n Z) (f : Fm) : ∀ m ∈ (descR Z f).1, BkG c m := by
 unfold descR
 split
 ·obtain ⟨⟨s, o⟩, hso⟩ : ∃ x, x = stmtO Z f.name := ⟨_, rfl⟩
  rw [<- hso]
  cases o with
  | some e => intro m hm; cases hm
  | none =>
   have hs := z.get (stmtO_none hso.symm)
   intro m hm
   simp at hm
   rcases hm with rfl | rfl
   ·exact bkG_types c hs.2.1 hs.2.2
   ·exact bkG_des c s
 ·split
  ·obtain ⟨⟨p, o⟩, hso⟩ : ∃ x, x = portO Z f.portal := ⟨_, rfl⟩
   rw [<- hso]
   cases o with
   | some e => intro m hm; cases hm
   | none =>
    intro m hm
    simp at hm
    rw [hm]; exact bkG_des c _
  ·intro m hm; cases hm
theorem bkG_close (c : Bool) (f : Fm) : ∀ m ∈ closeL f, BkG c m := by
 unfold closeL
 split
 ·intro m hm; rw [List.mem_singleton.1 hm]; exact bkG_pB c (by simp)
 ·intro m hm; cases hm
end
end Go.Proofs.YtknohkmpficjgaaGreatDoor.Ax
namespace Go.Proofs.YtknohkmpficjgaaGreatDoor.Ax
open Go.RowKit Go By
set_option maxRecDepth 10000
section
variable {L : List (Nat × List AV)} {h : List (List AV)} {i : Nat} {Z : Zs}
def fpT : List UInt8 := [102, 97, 105, 108, 101, 100, 32, 111, 110, 32, 112, 117, 114, 112, 111, 115, 101]
def actO (v : Vb) : Er := if v.kind = 8 then some (v.code, fpT) else none
def actB (Z : Zs) (v : Vb) : Bk := if v.kind = 1 then pB 73 else tgB (txT Z.status v.kind)
def actZ (Z : Zs) (v : Vb) : Zs := if v.kind = 1 \/ v.kind = 8 then Z else { Z with status := txN Z.status v.kind, S := if exitK v.kind = true then Z.S.clear else Z.S }
def actV (m : Bk) (o : Er) : AV := .tup [if o.isSome = true then .sl 0 [] (some true) .exact else .sl 11 [bkC m] (some false) .exact, erV o]
theorem actV_none (m : Bk) : actV m none = .tup [.sl 11 [bkC m] (some false) .exact, .v .nilIface] := rfl
theorem actV_some (m : Bk) (c t : List UInt8) : actV m (some (c, t)) = .tup [.sl 0 [] (some true) .exact, erV (some (c, t))] := rfl
theorem own_i (Z : Zs) (i : Nat) : ∀ q ∈ [i], q ∈ Z.own i := by simp [Zs.own]
theorem SsG.turned (g : SsG [] h i Z) (st : Int) (sk ov : Bool) {f : FuncId} {args : List AV} {v : AV} {r : List (List AV) -> AV -> Prop} (k : Contract Tryz.prog f args h v (h.set i { Z with status := st, skips := sk, over := ov }.top) [i]) (hr : ∀ h', r h' v) : DoesS f args h i Z r { Z with status := st, skips := sk, over := ov } :=
 ⟨_, [i], v, k, hr _, g.setTop st sk ov, fun q hq _ => Zs.vars_mem.2 (.inr (.inl (own_i Z i q hq))), by simp, fun q hq hn => List.getElem?_set_ne fun e => hn (by rw [<- e]; exact Zs.vars_mem.2 (.inr (.inl (by simp [Zs.own])))), fun q hq => .inl hq⟩
theorem sact_d (g : SsG [] h i Z) (v : Vb) : DoesS 78 [.box i 0, .agg (vbC v)] h i Z (fun _ r => r = actV (actB Z v) (actO v)) (actZ Z v) := by
 have e1 : ∀ xs, (h ++ xs)[i]? = some Z.top := fun xs => g.at_ xs
 have e3 : ∀ xs cs, (h ++ xs).set i cs = h.set i cs ++ xs := fun xs cs => List.set_append_left _ _ g.i_lt
 have f1 : ∀ xs cs, (h.set i cs ++ xs)[i]? = some cs := fun xs cs => by rw [List.getElem?_append_left (by simpa using g.i_lt)]; exact List.getElem?_set_self g.i_lt
 by_cases k1 : v.kind = 1
 ·have k8 : ¬ v.kind = 8 := by omega
  have ez : actZ Z v = Z := if_pos (.inl k1)
  have eb : actB Z v = pB 73 := if_pos k1
  have eo : actO v = none := if_neg k8
  rw [ez, eb, eo, actV_none]
  refine g.idle (v := .tup [.sl 11 [bkC (pB 73)] (some false) .exact, .v .nilIface]) ?_ rfl
  refine contract_of k78 mixed (by simp [c78]) fun hh hargs => ?_
  simp [c78, k1, hh, leqH_take, pB, bkC_mk]
 have k1' : (v.kind == 1) = false := by simpa using k1
 by_cases k8 : v.kind = 8
 ·have ez : actZ Z v = Z := if_pos (.inr k8)
  have eo : actO v = some (v.code, fpT) := if_pos k8
  rw [ez, eo, actV_some]
  refine g.idle (v := .tup [.sl 0 [] (some true) .exact, erV (some (v.code, fpT))]) ?_ rfl
  refine contract_of k78 mixed (by simp [c78]) fun hh hargs => ?_
  simp [c78, k1, k1', k8, hh, leqH_take, fpT]
 have k8' : (v.kind == 8) = false := by simpa using k8
 have ez : actZ Z v = { Z with status := txN Z.status v.kind, S := if exitK v.kind = true then Z.S.clear else Z.S } := if_neg (by rintro (e | e); exact k1 e; exact k8 e)
 have eb : actB Z v = tgB (txT Z.status v.kind) := if_neg k1
 have eo : actO v = none := if_neg k8
 rw [ez, eb, eo, actV_none]
 cases hx : exitK v.kind with
 | false =>
  rw [if_neg (by simp)]
  refine g.turned (txN Z.status v.kind) Z.skips Z.over (v := .tup [.sl 11 [bkC (tgB (txT Z.status v.kind))] (some false) .exact, .v .nilIface]) ?_ (fun _ => rfl)
  have hl := ltLL_set (i := i) g.hh (Zs.top_lt { Z with status := txN Z.status v.kind } g.e_lt g.a_lt g.p_lt)
  simp only [Zs.top_mk] at hl ⊢
  refine contract_of k78 mixed (by simp [c78]) fun hh hargs => ?_
  simp [c78, k1, k1', k8, k8', e1, Zs.top_mk]
  refine xcall_self (by simp) (txnext_c Z.status v _) ?_
  simp [e1, Zs.top_mk, e3]
  refine xcall_self (by simp) (sexit_c v _) ?_
  simp [hx, hl, leqH_take, leqC_same, tgB, bkC_mk]
 | true =>
  rw [if_pos rfl]
  have g1 := (g.setTop (txN Z.status v.kind) Z.skips Z.over).app (c := vbC v) (by simp) (by simp [vbC_mk])
  obtain ⟨h', wr, k, g', ht, hl, hw, hs, hv⟩ := g1.byP (pclear_d g1.por)
  obtain ⟨o1, _⟩ := g1.off hw
  have t1 := ht ((h.set i { Z with status := txN Z.status v.kind, skips := Z.skips, over := Z.over }.top).length, vbC v) (by simp)
  have hl' : h.length + 1 <= h'.length := by simpa using hl
  have hgh := g'.hh
  simp only [List.length_set] at t1
  simp only [Zs.top_mk] at k
  refine g.does (H := h.set i { Z with status := txN Z.status v.kind, skips := Z.skips, over := Z.over }.top ++ [vbC v]) (fun q hq hn => ?_) (by simp) g' hw hs hv hl rfl rfl (w0 := [i]) (fun q hq _ => own_i Z i q hq) (v := .tup [.sl 11 [bkC (tgB (txT Z.status v.kind))] (some false) .exact, .v .nilIface]) ?_ rfl
  ·rw [List.getElem?_append_left (by simpa using hq), List.getElem?_set_ne fun e => hn (by rw [<- e]; exact Zs.vars_mem.2 (.inr (.inl (by simp [Zs.own]))))]
  ·refine contract_of k78 mixed (by simp [c78]) fun hh hargs => ?_
   simp [c78, k1, k1', k8, k8', e1, Zs.top_mk]
   refine xcall_self (by simp) (txnext_c Z.status v _) ?_
   simp [e1, Zs.top_mk, e3]
   refine xcall_self (by simp) (sexit_c v _) ?_
   simp [hx, f1]
   refine xcall_self (by simp) k ?_
   simp [hgh, leqH_take, tgB, bkC_mk, o1, t1]
   refine ⟨by omega, ?_⟩
   intro q hq _
   first | exact hq | exact hq.symm | (rcases hq with hq | hq; exact .inr hq; exact .inl hq)
def failZ (Z : Zs) : Zs := { Z with status := txF Z.status, S := if txF Z.status = 69 then Z.S.clear else Z.S }
theorem sblame_n (g : SsG L h i Z) : Contract Tryz.prog 26 [.box i 0, .v .nilIface] h (.sl 0 [] (some true) .exact) h [] := by
 refine contract_of k26 mixed (by simp [c26]) fun hh hargs => ?_
 simp [c26]
 refine xcall_self (by simp) (asnil_c _ rfl) ?_
 simp [hh, leqH_take]
theorem sblame_d (g : SsG [] h i Z) (c t : List UInt8) : DoesS 26 [.box i 0, erV (some (c, t))] h i Z (fun _ r => r = .sl 11 [bkC (erF c t)] (some false) .exact) (failZ Z) := by
 have e1 : ∀ xs, (h ++ xs)[i]? = some Z.top := fun xs => g.at_ xs
 have e3 : ∀ xs cs, (h ++ xs).set i cs = h.set i cs ++ xs := fun xs cs => List.set_append_left _ _ g.i_lt
 have f1 : ∀ xs cs, (h.set i cs ++ xs)[i]? = some cs := fun xs cs => by rw [List.getElem?_append_left (by simpa using g.i_lt)]; exact List.getElem?_set_self g.i_lt
 have oi := g.oi
 have ka := aserr_c (h := h ++ [[AV.v (.string (strB [])), .v (.string (strB []))]]) c t (i := h.length) (cs := [AV.v (.string (strB [])), .v (.string (strB []))]) (by simp) rfl
 simp only [set_at0, List.set_cons_zero] at ka
 have hb : ∀ H, Contract Tryz.prog 50 [.v (.string (strB c)), .v (.string (strB t))] H (.agg (bkC (erF c t))) H [] := fun H => er_error c t H
 unfold failZ
 by_cases s69 : txF Z.status = 69
 ·rw [if_pos s69]
  have g1 := (g.setTop (txF Z.status) Z.skips Z.over).app (c := [AV.v (.string (strB c)), .v (.string (strB t))]) (by simp) (by simp)
  obtain ⟨h', wr, k, g', ht, hl, hw, hs, hv⟩ := g1.byP (pclear_d g1.por)
  obtain ⟨o1, _⟩ := g1.off hw
  obtain ⟨t2, _⟩ := g'.tmp _ (List.mem_cons_self ..)
  have t1 := ht ((h.set i { Z with status := txF Z.status, skips := Z.skips, over := Z.over }.top).length, [AV.v (.string (strB c)), .v (.string (strB t))]) (by simp)
  have hl' : h.length + 1 <= h'.length := by simpa using hl
  have hgh := g'.hh
  simp only [List.length_set] at t1 t2
  simp only [Zs.top_mk] at k
  refine g.does (H := h.set i { Z with status := txF Z.status, skips := Z.skips, over := Z.over }.top ++ [[AV.v (.string (strB c)), .v (.string (strB t))]]) (fun q hq hn => ?_) (by simp) g' hw hs hv hl rfl rfl (w0 := [i, h.length]) (fun q hq hlt => ?_) (v := .sl 11 [bkC (erF c t)] (some false) .exact) ?_ rfl
  ·rw [List.getElem?_append_left (by simpa using hq), List.getElem?_set_ne fun e => hn (by rw [<- e]; exact Zs.vars_mem.2 (.inr (.inl (by simp [Zs.own]))))]
  ·simp at hq
   rcases hq with rfl | rfl
   ·simp [Zs.own]
   ·omega
  ·rw [s69] at k
   refine contract_of k26 mixed (by simp [c26]) fun hh hargs => ?_
   simp [c26]
   refine xcall_self (by simp) ka ?_
   simp [e1, Zs.top_mk, oi]
   refine xcall_self (by simp) (txfail_c Z.status _) ?_
   simp [e1, Zs.top_mk, e3, s69, f1]
   refine xcall_self (by simp) k ?_
   simp [t2]
   refine xcall_self (by simp) (hb _) ?_
   simp [hgh, leqH_take, o1, t1]
   refine ⟨by omega, ?_⟩
   intro q hq _
   first | exact hq | (rcases hq with hq | hq | hq <;> simp [hq])
 ·rw [if_neg s69]
  have s69' : (txF Z.status == 69) = false := by simpa using s69
  refine g.turned (txF Z.status) Z.skips Z.over (v := .sl 11 [bkC (erF c t)] (some false) .exact) ?_ (fun _ => rfl)
  have hl := ltLL_set (i := i) g.hh (Zs.top_lt { Z with status := txF Z.status } g.e_lt g.a_lt g.p_lt)
  simp only [Zs.top_mk] at hl ⊢
  refine contract_of k26 mixed (by simp [c26]) fun hh hargs => ?_
  simp [c26]
  refine xcall_self (by simp) ka ?_
  simp [e1, Zs.top_mk, oi]
  refine xcall_self (by simp) (txfail_c Z.status _) ?_
  simp [e1, Zs.top_mk, e3, s69, s69', f1]
  refine xcall_self (by simp) (hb _) ?_
  simp [hl, leqH_take, leqC_same]
def zB (s : Int) : Bk := ⟨90, s, [], [], [], 0, 0, [], [], [], []⟩
def readyZ (Z : Zs) : Zs := { Z with S := if Z.status = 73 then Z.S.clear else Z.S }
theorem SsG.setTmp (g : SsG L h i Z) {t : Nat} (ht : t ∉ Z.vars i) (hL : ∀ x ∈ L, x.1 ≠ t) {c : List AV} (hc : ltL h.length c) (hid : ∀ x ∈ c, x.idOf = .none) : SsG L (h.set t c) i Z := by
 have ne : ∀ q ∈ Z.vars i, t ≠ q := fun q hq e => ht (e ▸ hq)
 have own : ∀ q ∈ Z.own i, (h.set t c)[q]? = h[q]? := fun q hq => List.getElem?_set_ne (ne q (Zs.vars_mem.2 (.inr (.inl hq))))
 have hl := ltLL_set (i := t) g.hh hc
 refine ⟨(own i (by simp [Zs.own])).trans g.top, g.eng.move (own _ (by simp [Zs.own])) (own _ (by simp [Zs.own])), (own _ (by simp [Zs.own])).trans g.ents, ?_, g.nd, g.sep, fun x hx => ?_, plainH_set g.pl hid _⟩
 ·exact g.por.move (List.getElem?_set_ne (ne _ (Zs.vars_mem.2 (.inl rfl)))) (fun q hq => List.getElem?_set_ne (ne q (Zs.vars_mem.2 (.inr (.inr hq))))) (by rw [List.length_set]; exact hl)
 ·obtain ⟨t1, t2⟩ := g.tmp x hx
  exact ⟨by rw [List.getElem?_set_ne (Ne.symm (hL x hx))]; exact t1, t2⟩
theorem sready_d (g : SsG [] h i Z) : DoesS 23 [.box i 0] h i Z (fun _ r => r = .agg (bkC (zB Z.status))) (readyZ Z) := by
 have e1 : ∀ xs, (h ++ xs)[i]? = some Z.top := fun xs => g.at_ xs
 by_cases s73 : Z.status = 73
 ·have ez : readyZ Z = { Z with S := Z.S.clear } := by unfold readyZ; rw [if_pos s73]
  rw [ez]
  have g1 := g.app (c := zBk) (by simp [zBk]) (by simp [zBk])
  obtain ⟨h', wr, k, g', ht, hl, hw, hs, hv⟩ := g1.byP (pclear_d g1.por)
  obtain ⟨o1, _⟩ := g1.off hw
  have t1 := ht (h.length, zBk) (by simp)
  obtain ⟨t2, t3⟩ := g'.tmp _ (List.mem_cons_self ..)
  have hl' : h.length + 1 <= h'.length := by simpa using hl
  dsimp only at t1 t2 t3
  have g2 := g'.none.setTmp (t := h.length) t3 (fun x hx => by cases hx) (c := bkC (zB Z.status)) (by simp) (by simp [bkC_mk])
  have hgh := g2.hh
  have ni : ¬ i = h.length := g.oi
  obtain ⟨t4, _⟩ := g'.none.setTmp (t := h.length) t3 (fun x hx => by cases hx) (c := bkC (zB Z.status)) (by simp) (by simp [bkC_mk])
  have t5 : h'[i]? = some Z.top := by
   have := g'.top
   exact this
  simp only [List.length_set] at hgh
  simp only [zBk] at k t2
  have hlen1 : (h ++ [zBk]).length = h.length + 1 := by simp
  refine g.does (H := h) (fun q hq hn => rfl) (Nat.le_refl _) g2 (fun q hq hlt => hw q hq (by omega)) (fun q hq hn => ?_) (fun q hq => ?_) (by rw [List.length_set]; omega) rfl rfl (w0 := [h.length]) (fun q hq hlt => ?_) (v := .agg (bkC (zB Z.status))) ?_ rfl
  ·rw [List.getElem?_set_ne (by omega), hs q (by omega) hn, List.getElem?_append_left hq]
  ·rcases hv q hq with h1 | h1
   ·exact .inl h1
   ·right; omega
  ·simp at hq; omega
  ·simp only [zB, bkC_mk] at hgh ⊢
   refine contract_of k23 mixed (by simp [c23]) fun hh hargs => ?_
   simp [c23, e1, Zs.top_mk, s73]
   refine xcall_self (by simp) k ?_
   have e6 : ∀ X, (h'.set h.length X)[h.length]? = some X := fun X => List.getElem?_set_self (by omega)
   simp [t5, Zs.top_mk, t2, s73, hgh, e6, leqH_take, t1, o1]
   exact ⟨by omega, by simpa [s73] using hgh, fun q hq _ => .inl hq⟩
 ·have ez : readyZ Z = Z := by unfold readyZ; rw [if_neg s73]
  have s73' : (Z.status == 73) = false := by simpa using s73
  rw [ez]
  refine g.idle (v := .agg (bkC (zB Z.status))) ?_ rfl
  refine contract_of k23 mixed (by simp [c23]) fun hh hargs => ?_
  simp [c23, e1, Zs.top_mk, s73, s73', hh, leqH_take, zB, bkC_mk]
end
structure Via (h : List (List AV)) (i : Nat) (Z : Zs) (W : List Nat) (H : List (List AV)) (Z' : Zs) : Prop where
 len : h.length <= H.length
 kept : ∀ q < h.length, q ∉ Z.vars i -> H[q]? = h[q]?
 wr : ∀ q ∈ W, q < h.length -> q ∈ Z.vars i
 vars : ∀ q ∈ Z'.vars i, q ∈ Z.vars i \/ h.length <= q
section
variable {L : List (Nat × List AV)} {h H : List (List AV)} {i : Nat} {Z Z' Z2 : Zs} {W : List Nat}
theorem Via.refl (h : List (List AV)) (i : Nat) (Z : Zs) : Via h i Z [] h Z := ⟨Nat.le_refl _, fun _ _ _ => rfl, (fun q hq => by cases hq), fun q hq => .inl hq⟩
theorem Via.step (v : Via h i Z W H Z') {wr : List Nat} {h2 : List (List AV)} (hl : H.length <= h2.length) (hw : ∀ q ∈ wr, q < H.length -> q ∈ Z'.vars i) (hs : ∀ q < H.length, q ∉ Z'.vars i -> h2[q]? = H[q]?) (hv : ∀ q ∈ Z2.vars i, q ∈ Z'.vars i \/ H.length <= q) : Via h i Z (wr ++ W) h2 Z2 := by
 have back : ∀ q, q < h.length -> q ∈ Z'.vars i -> q ∈ Z.vars i := fun q hq hv => by
  rcases v.vars q hv with h1 | h1
  ·exact h1
  ·omega
 have := v.len
 refine ⟨by omega, fun q hq hn => ?_, fun q hq hlt => ?_, fun q hq => ?_⟩
 ·rw [hs q (by omega) fun hh => hn (back q hq hh), v.kept q hq hn]
 ·rcases List.mem_append.1 hq with h1 | h1
  ·exact back q hlt (hw q h1 (by omega))
  ·exact v.wr q h1 hlt
 ·rcases hv q hq with h1 | h1
  ·exact v.vars q h1
  ·exact .inr (by omega)
theorem Via.app (v : Via h i Z W H Z') (xs : List (List AV)) : Via h i Z W (H ++ xs) Z' := ⟨by have := v.len; simp; omega, fun q hq hn => by rw [List.getElem?_append_left (by have := v.len; omega)]; exact v.kept q hq hn, v.wr, v.vars⟩
theorem Via.set (v : Via h i Z W H Z') {q0 : Nat} (hq0 : q0 ∈ Z'.vars i) (cs : List AV) (he : Z2.vars i = Z'.vars i) : Via h i Z (q0 :: W) (H.set q0 cs) Z2 :=
 v.step (wr := [q0]) (by simp) (fun q hq _ => by rw [List.mem_singleton.1 hq]; exact hq0) (fun q hq hn => List.getElem?_set_ne fun e => hn (by rw [<- e]; exact hq0)) (fun q hq => .inl (by rw [<- he]; exact hq))
theorem Via.new (v : Via h i Z W H Z') {q0 : Nat} (hq0 : h.length <= q0) (cs : List AV) : Via h i Z (q0 :: W) (H.set q0 cs) Z' := ⟨by simpa using v.len, fun q hq hn => by rw [List.getElem?_set_ne (by omega)]; exact v.kept q hq hn, fun q hq hlt => by
 rcases List.mem_cons.1 hq with h1 | h1
 ·omega
 ·exact v.wr q h1 hlt, v.vars⟩
theorem Via.byP (v : Via h i Z W H Z') {wr : List Nat} {h2 : List (List AV)} {S' : Ps} (hl : H.length <= h2.length) (hw : ∀ q ∈ wr, q < H.length -> q ∈ Z'.S.vars) (hs : ∀ q < H.length, q ∉ Z'.S.vars -> h2[q]? = H[q]?) (hv : ∀ q ∈ S'.vars, q ∈ Z'.S.vars \/ H.length <= q) : Via h i Z (wr ++ W) h2 { Z' with S := S' } :=
 v.step hl (fun q hq hlt => Zs.vars_mem.2 (.inr (.inr (hw q hq hlt)))) (fun q hq hn => hs q hq fun hh => hn (Zs.vars_mem.2 (.inr (.inr hh)))) (fun q hq => by
  rcases Zs.vars_mem.1 hq with h1 | h1 | h1
  ·exact .inl (Zs.vars_mem.2 (.inl h1))
  ·exact .inl (Zs.vars_mem.2 (.inr (.inl h1)))
  ·rcases hv q h1 with h2 | h2
   ·exact .inl (Zs.vars_mem.2 (.inr (.inr h2)))
   ·exact .inr h2)
theorem Via.does (v : Via h i Z W H Z') {L' : List (Nat × List AV)} (g' : SsG L' H i Z') {f : FuncId} {args : List AV} {r : List (List AV) -> AV -> Prop} {x : AV} (k : Contract Tryz.prog f args h x H W) (hr : r H x) : DoesS f args h i Z r Z' := ⟨H, W, x, k, hr, g'.none, v.wr, v.len, v.kept, v.vars⟩
theorem vars_e (Z : Zs) (i : Nat) : Z.e ∈ Z.vars i := Zs.vars_mem.2 (.inr (.inl (by simp [Zs.own])))
theorem vars_i (Z : Zs) (i : Nat) : i ∈ Z.vars i := Zs.vars_mem.2 (.inr (.inl (by simp [Zs.own])))
theorem vars_a (Z : Zs) (i : Nat) : Z.a ∈ Z.vars i := Zs.vars_mem.2 (.inr (.inl (by simp [Zs.own])))
theorem fetch_any {c : Bool} {p : Nat} {S : Ps} (hr : PsAt h p S) (ho : PsOk S) (hf : ∀ x ∈ S.e, PtF c x.val.p) (k : List UInt8) (most : Int) :
  ∃ R more S', DoesP 92 [.box p 0, .v (.string (strB k)), .v (.int .i64 most)] h p S (.tup [.sl 1 (enc rowKC R) none .no, .v (.bool more)]) S' /\ RowsF c R /\ PsOk S' /\ ∀ x ∈ S'.e, PtF c x.val.p := by
 have idle : Contract Tryz.prog 92 [.box p 0, .v (.string (strB k)), .v (.int .i64 most)] h (.tup [.sl 1 (enc rowKC []) none .no, .v (.bool false)]) h [] -> DoesP 92 [.box p 0, .v (.string (strB k)), .v (.int .i64 most)] h p S (.tup [.sl 1 (enc rowKC []) none .no, .v (.bool false)]) S :=
  fun kk => ⟨h, [], kk, hr, (fun q hq => by cases hq), Nat.le_refl _, (fun _ _ _ => rfl), (fun q hq => .inl hq), fun hp => hp⟩
 cases hg : S.get k with
 | none => exact ⟨[], false, S, idle (pfetch_n hr hg most), ⟨by simp, fun r hr => by cases hr⟩, ho, hf⟩
 | some x =>
  by_cases hno : x.p.ran = false \/ x.p.over = true
  ·exact ⟨[], false, S, idle (pfetch_no hr hg hno most), ⟨by simp, fun r hr => by cases hr⟩, ho, hf⟩
  ·rw [not_or] at hno
   have hran : x.p.ran = true := by simpa using hno.1
   have hov : x.p.over = false := by simpa using hno.2
   have hx : PtF c x.p := by obtain ⟨y, hy, _, rfl⟩ := get_mem hg; exact hf y hy
   have hx2 : PtF c (fetchX x most).p := ⟨hx.text, hx.oids, hx.ps, hx.rows.sub (List.drop_sublist ..)⟩
   exact ⟨_, _, _, pfetch_d hr ho hg hran hov most, hx.rows.sub (List.take_sublist ..), ho.put k hx2.fit, fun y hy => by
    rcases mem_kput ho.ok hy with ⟨_, e⟩ | ⟨_, h2⟩
    ·rw [e]; exact hx2
    ·exact hf y h2⟩
theorem sagain_c (v : Vb) (h : List (List AV)) : Contract Tryz.prog 90 [.agg (vbC v)] h (.v (.bool (rowsBK v.kind || v.kind == 1))) h [] := by
 refine contract_of k90 mixed (by simp [c90]) fun hh hargs => ?_
 simp [c90]
 refine xcall_self (by simp) (srows_c v _) ?_
 cases hr : rowsBK v.kind <;> simp [hh, leqH_take]
def ranC : List UInt8 := [53, 53, 48, 48, 48]
def ranT : List UInt8 := [112, 111, 114, 116, 97, 108, 32, 99, 97, 110, 110, 111, 116, 32, 98, 101, 32, 114, 117, 110]
theorem portO_none {Z : Zs} {k : List UInt8} {p : Pt} (h : portO Z k = (p, none)) : ∃ x, Z.S.get k = some x /\ x.p = p := by
 unfold portO at h
 cases hg : Z.S.get k with
 | none => rw [hg] at h; cases h
 | some y => rw [hg] at h; injection h with h1 h2; exact ⟨y, rfl, h1⟩
theorem bkG_act (c : Bool) (Z : Zs) (v : Vb) : BkG c (actB Z v) := by
 unfold actB
 split
 ·exact bkG_pB c (by simp)
 ·refine bkG_tag c ?_
  unfold txT
  repeat' split
  all_goals decide
theorem ZOk.act {c : Bool} {n : Nat} {Z : Zs} (z : ZOk c n Z) (v : Vb) : ZOk c n (actZ Z v) := by
 unfold actZ
 split
 ·exact z
 ·have h1 := z.setT (txN_right Z.status v.kind) Z.skips Z.over
  split
  ·exact h1.clear
  ·exact h1
theorem ran_first {c : Bool} {n : Nat} (g : SsG L h i Z) (z : ZOk c n Z) (hn : n <= 1000) {k : List UInt8} {x : PV} (hx : Z.S.get k = some x) (hran : x.p.ran = false) (v : Vb) :
  ∃ h' wr Z', Contract Tryz.prog 81 [.box Z.e 0, .agg (vbC v), .sl 2 (enc cellC x.p.ps) none .no] h (.sl 1 (enc rowKC (rowsV v Z.T.n x.p.ps)) none .no) (h.set Z.e (egC Z.T.a (nextV v Z.T.n))) [Z.e] /\
   Contract Tryz.prog 91 [.box Z.p 0, .v (.string (strB k)), .sl 1 (enc rowKC (rowsV v Z.T.n x.p.ps)) none .no] (h.set Z.e (egC Z.T.a (nextV v Z.T.n))) (.v (.bool true)) h' wr /\ SsG L h' i Z' /\ ZOk c (n + 1) Z' /\
   (∀ t ∈ L, t.1 ∉ wr /\ t.1 ≠ Z.e) /\ i ∉ wr /\ (∀ {h0 : List (List AV)} {Z0 : Zs} {W : List Nat}, Via h0 i Z0 W h Z -> Via h0 i Z0 (wr ++ Z.e :: W) h' Z') /\ Z'.p = Z.p /\ (Z'.status = Z.status /\ Z'.st = Z.st /\ Z'.clock = Z.clock /\ Z'.skips = Z.skips /\ Z'.over = Z.over) := by
 have hp := z.getP hx
 have hrf := rowsF_V c v Z.T.n (by have := z.en; omega) hp.ps
 have kr := erows_c g.eng (by have := z.en; omega) v x.p.ps (by have := hp.ps.1; omega) (fun y hy => by have := (hp.ps.2 y hy).1; omega)
 have g2 := g.setEng (nextV v Z.T.n)
 have z2 : ZOk c (n + 1) { Z with T := { Z.T with n := nextV v Z.T.n } } := z.setE (by have := nextV_le v Z.T.n; have := z.en; omega)
 obtain ⟨h', wr, k2, g3, ht, hl, hw, hs, hv⟩ := g2.byP (pran_d g2.por z.po hx hran hrf.fit)
 refine ⟨h', wr, _, kr, k2, g3, z2.putP k (x := ⟨x.v, ranP x.p (rowsV v Z.T.n x.p.ps), _, 0⟩) ⟨hp.text, hp.oids, hp.ps, hrf⟩, fun t ht2 => ⟨ht t ht2, fun e => (g.tmp t ht2).2 (by rw [e]; exact vars_e Z i)⟩, (g2.off hw).1, fun {h0 Z0 W} vv => ?_, rfl, rfl, rfl, rfl, rfl, rfl⟩
 exact (vv.set (vars_e Z i) _ (Z2 := { Z with T := { Z.T with n := nextV v Z.T.n } }) rfl).byP hl hw hs hv
end
section
variable {h : List (List AV)} {i : Nat} {Z : Zs}
theorem act_step (m : Bk) (o : Er) : ∃ A B, actV m o = .tup [A, erV o] /\ stepV [m] o = .tup [B, erV o] /\ A.unown = A /\ A.idOf = none /\ weak A B /\ B.unown = B /\ B.idOf = none /\ ∀ n, A.lt n /\ B.lt n := by
 refine ⟨_, _, rfl, rfl, ?_⟩
 cases o with
 | some e => simp
 | none => simp [weak, enc, nulLe]
def ExecX (Z : Zs) (k : List UInt8) (M : List Bk) (o : Er) (Z' : Zs) : Prop :=
 ∀ x, Z.S.get k = some x -> allowO Z ⟨x.p.text, x.p.oids⟩ = none -> x.p.ran = false -> rowsBK (says x.p.text).kind = false -> actO (says x.p.text) = none ->
  M = [actB Z (says x.p.text)] /\ o = none /\ Z'.status = (actZ Z (says x.p.text)).status /\ Z'.st = Z.st /\ Z'.clock = Z.clock /\ Z'.skips = Z.skips /\ Z'.over = Z.over
theorem actZ_keeps (Z : Zs) (v : Vb) : (actZ Z v).st = Z.st /\ (actZ Z v).clock = Z.clock /\ (actZ Z v).skips = Z.skips /\ (actZ Z v).over = Z.over := by
 unfold actZ
 split <;> exact ⟨rfl, rfl, rfl, rfl⟩
theorem actZ_status (Z Z2 : Zs) (v : Vb) (h : Z.status = Z2.status) : (actZ Z v).status = (actZ Z2 v).status := by
 unfold actZ
 split
 ·exact h
 ·show txN Z.status v.kind = txN Z2.status v.kind
  rw [h]
set_option maxHeartbeats 1000000 in
theorem sexec_d {c : Bool} {n : Nat} (g : SsG [] h i Z) (z : ZOk c n Z) (hn : n <= 1000) (k : List UInt8) (hk : k.length <= 100000) (most : Int) :
  ∃ M o Z', DoesS 46 [.box i 0, .v (.string (strB k)), .v (.int .i64 most)] h i Z (fun _ r => r = stepV M o) Z' /\ ZOk c (n + 1) Z' /\ (∀ m ∈ M, BkG c m) /\ ExecX Z k M o Z' := by
 have hpt := sport_c g z.po z.shortP k hk
 obtain ⟨⟨p, o⟩, hpo⟩ : ∃ x, x = portO Z k := ⟨_, rfl⟩
 rw [<- hpo] at hpt
 cases o with
 | some e =>
  obtain ⟨c0, t0⟩ := e
  refine ⟨[], some (c0, t0), Z, g.idle (v := stepV [] (some (c0, t0))) ?_ rfl, z.mono (Nat.le_succ _), (fun m hm => by cases hm), fun x hx ha _ _ _ => by unfold portO at hpo; rw [hx] at hpo; simp only [ha] at hpo; cases hpo⟩
  simp only [ptV, ptC] at hpt
  refine contract_of k46 mixed (by simp [c46]) fun hh hargs => ?_
  simp [c46]
  refine xcall_self (by simp) hpt ?_
  simp [stepV, hh, leqH_take]
 | none =>
  obtain ⟨x, hx, rfl⟩ := portO_none hpo.symm
  have hxt := (z.getP hx).text
  have hq := fun H => qparse_c x.p.text (by omega) H
  obtain ⟨v, hv⟩ : ∃ v, v = says x.p.text := ⟨_, rfl⟩
  have hv' : sayQ (trimL x.p.text) = v := hv.symm
  rw [hv'] at hq
  have g2 : SsG [((h ++ [ptV x.p]).length, vbC v), (h.length, ptV x.p)] (h ++ [ptV x.p] ++ [vbC v]) i Z := (g.app (c := ptV x.p) (ptC_lt (by simp)) (ptC_id rfl)).app (c := vbC v) (by simp) (by simp [vbC_mk])
  have via2 : Via h i Z [] (h ++ [ptV x.p] ++ [vbC v]) Z := ((Via.refl h i Z).app _).app _
  have e1 : ∀ xs, (h ++ xs)[i]? = some Z.top := fun xs => g.at_ xs
  have ni := g.ni
  have oi := g.oi
  have hag := fun H => sagain_c v H
  have hrw := fun H => srows_c v H
  have happ : h ++ [ptV x.p] ++ [vbC v] = h ++ [ptV x.p, vbC v] := by simp
  have hlen1 : (h ++ [ptV x.p]).length = h.length + 1 := by simp
  rw [happ, hlen1] at g2
  rw [happ] at via2
  cases hran : x.p.ran with
  | true =>
   cases hagain : (rowsBK v.kind || v.kind == 1) with
   | false =>
    rw [hagain] at hag
    refine ⟨[], some (ranC, ranT), Z, g.idle (v := stepV [] (some (ranC, ranT))) ?_ rfl, z.mono (Nat.le_succ _), (fun m hm => by cases hm), fun y hy _ hr _ _ => by rw [hx] at hy; injection hy with hy; subst hy; rw [hran] at hr; cases hr⟩
    simp only [ptV, ptC, hran] at hpt
    refine contract_of k46 mixed (by simp [c46]) fun hh hargs => ?_
    simp [c46]
    refine xcall_self (by simp) hpt ?_
    simp
    refine xcall_self (by simp) (hq _) ?_
    simp
    refine xcall_self (by simp) (hag _) ?_
    simp [stepV, hh, leqH_take, ranC, ranT]
   | true =>
    rw [hagain] at hag
    cases hrows : rowsBK v.kind with
    | false =>
     rw [hrows] at hrw
     obtain ⟨h5, w5, r5, k5, hr5, g5, t5, hl5, hw5, hs5, hv5⟩ := g2.byS (sact_d g2.none v)
     subst hr5
     obtain ⟨A, B, eA, eB, a1, a2, a3, b1, b2, ab⟩ := act_step (actB Z v) (actO v)
     rw [eA] at k5
     have via5 := via2.step hl5 hw5 hs5 hv5
     have hg5 := g5.hh
     have hab := ab h5.length
     have hl5' : h.length + 2 <= h5.length := by simpa using hl5
     refine ⟨[actB Z v], actO v, actZ Z v, via5.does g5 (x := stepV [actB Z v] (actO v)) ?_ rfl, (z.act v).mono (Nat.le_succ _), (fun m hm => by rw [List.mem_singleton.1 hm]; exact bkG_act c Z v), fun y hy _ hr _ _ => by rw [hx] at hy; injection hy with hy; subst hy; rw [hran] at hr; cases hr⟩
     rw [eB]
     have hid := erV_id (actO v)
     have hel := erV_lt h5.length (actO v)
     simp only [ptV, ptC, hran] at hpt k5
     refine contract_of k46 mixed (by simp [c46]) fun hh hargs => ?_
     simp [c46]
     refine xcall_self (by simp) hpt ?_
     simp
     refine xcall_self (by simp) (hq _) ?_
     simp
     refine xcall_self (by simp) (hag _) ?_
     simp
     refine xcall_self (by simp) (hrw _) ?_
     simp
     refine xcall_self (by simp) k5 ?_
     simp [a1, a2, a3, hid, hg5, leqH_take, hab, hel]
     refine ⟨by omega, fun q hq hlt => ?_⟩
     rcases hq with hq | hq | hq
     ·exact hq
     ·omega
     ·omega
    | true =>
     rw [hrows] at hrw
     obtain ⟨R, more, S', dP, hR, hoS, hfS⟩ := fetch_any (c := c) g2.por z.po z.pf k most
     obtain ⟨h5, w5, k5, g5, t5, hl5, hw5, hs5, hv5⟩ := g2.byP dP
     have via5 := via2.byP hl5 hw5 hs5 hv5
     have hg5 := g5.hh
     have hl5' : h.length + 2 <= h5.length := by simpa using hl5
     have kt := fun H => stold_c R more hR.told.1 hR.told.2 H
     refine ⟨toldL R more, none, { Z with S := S' }, via5.does g5 (x := stepV (toldL R more) none) ?_ rfl, (z.setS hoS hfS).mono (Nat.le_succ _), bkG_told c hR more, fun y hy _ hr _ _ => by rw [hx] at hy; injection hy with hy; subst hy; rw [hran] at hr; cases hr⟩
     simp only [ptV, ptC, hran] at hpt k5
     refine contract_of k46 mixed (by simp [c46]) fun hh hargs => ?_
     simp [c46]
     refine xcall_self (by simp) hpt ?_
     simp
     refine xcall_self (by simp) (hq _) ?_
     simp
     refine xcall_self (by simp) (hag _) ?_
     simp
     refine xcall_self (by simp) (hrw _) ?_
     simp [e1, Zs.top_mk]
     refine xcall_self (by simp) k5 ?_
     simp
     refine xcall_self (by simp) (kt _) ?_
     simp [stepV, hg5, leqH_take]
     refine ⟨by omega, fun q hq hlt => ?_⟩
     rcases hq with hq | hq | hq
     ·exact hq
     ·omega
     ·omega
  | false =>
   obtain ⟨h4, w4, Z4, kr, k2, g4, z4, t4, oi4, via4', hp4, ke⟩ := ran_first g2 z hn hx hran v
   have via4 := via4' via2
   obtain ⟨t4a, t4b⟩ := t4 (h.length + 1, vbC v) (by simp)
   obtain ⟨t4c, t4d⟩ := t4 (h.length, ptV x.p) (by simp)
   obtain ⟨m4a, _⟩ := g4.tmp (h.length + 1, vbC v) (by simp)
   obtain ⟨m4b, _⟩ := g4.tmp (h.length, ptV x.p) (by simp)
   have top4 := g4.top
   have hie : ¬ i = Z.e := g.nd4.1
   have noe := g.oe
   have nne := g.ne
   dsimp only at t4a t4b t4c t4d m4a m4b
   have t4b' : ¬ Z.e = h.length + 1 := fun e => t4b e.symm
   have t4d' : ¬ Z.e = h.length := fun e => t4d e.symm
   cases hrows : rowsBK v.kind with
   | false =>
    rw [hrows] at hrw
    obtain ⟨h5, w5, r5, k5, hr5, g5, t5, hl5, hw5, hs5, hv5⟩ := g4.byS (sact_d g4.none v)
    subst hr5
    obtain ⟨A, B, eA, eB, a1, a2, a3, b1, b2, ab⟩ := act_step (actB Z4 v) (actO v)
    rw [eA] at k5
    have via5 := via4.step hl5 hw5 hs5 hv5
    have hg5 := g5.hh
    have hab := ab h5.length
    have hl5' := via5.len
    refine ⟨[actB Z4 v], actO v, actZ Z4 v, via5.does g5 (x := stepV [actB Z4 v] (actO v)) ?_ rfl, z4.act v, (fun m hm => by rw [List.mem_singleton.1 hm]; exact bkG_act c Z4 v), fun y hy _ _ _ ha => ?_⟩
    rotate_left
    ·rw [hx] at hy; injection hy with hy; subst hy
     rw [<- hv] at ha ⊢
     obtain ⟨q1, q2, q3, q4⟩ := actZ_keeps Z4 v
     refine ⟨?_, ha, actZ_status _ _ _ ke.1, q1.trans ke.2.1, q2.trans ke.2.2.1, q3.trans ke.2.2.2.1, q4.trans ke.2.2.2.2⟩
     unfold actB
     rw [ke.1]
    rw [eB]
    have hid := erV_id (actO v)
    have hel := erV_lt h5.length (actO v)
    simp only [ptV, ptC, hran] at hpt kr k2 m4b
    refine contract_of k46 mixed (by simp [c46]) fun hh hargs => ?_
    simp [c46]
    refine xcall_self (by simp) hpt ?_
    simp
    refine xcall_self (by simp) (hq _) ?_
    simp [e1, Zs.top_mk]
    refine xcall_self (by simp) kr ?_
    simp [hie, t4b, t4d, t4b', t4d']
    refine xcall_self (by simp) k2 ?_
    simp [m4a, m4b, oi4, t4a, t4c, hie, t4b, t4d, t4b', t4d']
    refine xcall_self (by simp) (hrw _) ?_
    simp [m4a]
    refine xcall_self (by simp) k5 ?_
    simp [a1, a2, a3, hid, hg5, leqH_take, hab, hel]
    refine ⟨hl5', fun q hq hlt => ?_⟩
    rcases hq with hq | hq | hq | hq | hq
    ·exact .inl hq
    ·exact .inr (.inl hq)
    ·exact .inr (.inr hq)
    ·omega
    ·omega
   | true =>
    rw [hrows] at hrw
    obtain ⟨R, more, S', dP, hR, hoS, hfS⟩ := fetch_any (c := c) g4.por z4.po z4.pf k most
    obtain ⟨h5, w5, k5, g5, t5, hl5, hw5, hs5, hv5⟩ := g4.byP dP
    have via5 := via4.byP hl5 hw5 hs5 hv5
    have hg5 := g5.hh
    have hl5' := via5.len
    have kt := fun H => stold_c R more hR.told.1 hR.told.2 H
    refine ⟨toldL R more, none, { Z4 with S := S' }, via5.does g5 (x := stepV (toldL R more) none) ?_ rfl, z4.setS hoS hfS, bkG_told c hR more, fun y hy _ _ hr _ => by rw [hx] at hy; injection hy with hy; subst hy; rw [<- hv, hrows] at hr; cases hr⟩
    simp only [ptV, ptC, hran] at hpt kr k2 m4b
    refine contract_of k46 mixed (by simp [c46]) fun hh hargs => ?_
    simp [c46]
    refine xcall_self (by simp) hpt ?_
    simp
    refine xcall_self (by simp) (hq _) ?_
    simp [e1, Zs.top_mk]
    refine xcall_self (by simp) kr ?_
    simp [hie, t4b, t4d, t4b', t4d']
    refine xcall_self (by simp) k2 ?_
    simp [m4a, m4b, oi4, t4a, t4c, hie, t4b, t4d, t4b', t4d']
    refine xcall_self (by simp) (hrw _) ?_
    simp [top4, Zs.top_mk]
    refine xcall_self (by simp) k5 ?_
    simp
    refine xcall_self (by simp) (kt _) ?_
    simp [stepV, hg5, leqH_take]
    refine ⟨hl5', fun q hq hlt => ?_⟩
    rcases hq with hq | hq | hq | hq | hq
    ·exact .inl hq
    ·exact .inr (.inl hq)
    ·exact .inr (.inr hq)
    ·omega
    ·omega
end
section
variable {e o : List (Nat × AV)} {h : List (List AV)} {wr : List Nat} {d : Option Nat} {K : St -> List Nat -> Prop} {k bytes : Nat}
theorem xappendA_boxX {es es2 : List (List AV)} {nul nul2 : Option Bool} {room2 : Room} (h1 : es ≠ []) (i1 : ∀ c ∈ es.flatten, c.idOf = none) (h2 : es2 ≠ []) (i2 : ∀ c ∈ es2.flatten, c.idOf = none) (s1 : (es.length + es2.length) * bytes <= 140737488355328) (s2 : es.length + es2.length <= 140737488355328)
  (hK : K (St.puts ⟨e, o, h ++ [es.flatten ++ es2.flatten], wr⟩ d (.bsl h.length 0 k (es.length + es2.length)) false) []) : xappendA ⟨e, o, h, wr⟩ k bytes d (.sl k es nul .exact) (.sl k es2 nul2 room2) K :=
 .inr (.inl ⟨es2, if_pos rfl, h2, i2, .inr ⟨rfl, h1, rfl, i1, s1, s2, hK⟩⟩)
theorem xappendA_bsl {b off n : Nat} {cs : List AV} {es2 : List (List AV)} {nul2 : Option Bool} {room2 : Room} (hb : h[b]? = some cs) (hne : cs ≠ []) (hf : off + n * k <= cs.length) (i1 : ∀ c ∈ cs, c.idOf = none) (h2 : es2 ≠ []) (i2 : ∀ c ∈ es2.flatten, c.idOf = none) (s1 : (n + es2.length) * bytes <= 140737488355328) (s2 : n + es2.length <= 140737488355328)
  (hK : K (St.puts ⟨e, o, h.set b [] ++ [(cs.drop off).take (n * k) ++ es2.flatten], b :: wr⟩ d (.bsl h.length 0 k (n + es2.length)) false) []) : xappendA ⟨e, o, h, wr⟩ k bytes d (.bsl b off k n) (.sl k es2 nul2 room2) K :=
 .inr (.inl ⟨es2, if_pos rfl, h2, i2, rfl, cs, hb, hne, hf, i1, s1, s2, hK⟩)
theorem xappendA_0sl {k1 k2 : Nat} {es : List (List AV)} {nul2 : Option Bool} {room2 : Room} (hk : 2 <= k) (hK : K (St.puts ⟨e, o, h, wr⟩ d (.sl k1 es none .no) false) []) : xappendA ⟨e, o, h, wr⟩ k bytes d (.sl k1 es none .no) (.sl k2 [] nul2 room2) K := .inr (.inr ⟨rfl, .inr (.inr ⟨hk, rfl, rfl, hK⟩)⟩)
theorem xappendA_0bsl {k1 k2 b off n : Nat} {nul2 : Option Bool} {room2 : Room} (hk : 2 <= k) (hK : K (St.puts ⟨e, o, h, wr⟩ d (.bsl b off k1 n) false) []) : xappendA ⟨e, o, h, wr⟩ k bytes d (.bsl b off k1 n) (.sl k2 [] nul2 room2) K := .inr (.inr ⟨rfl, hk, hK⟩)
end
section
variable {h : List (List AV)} {i : Nat} {Z : Zs}
inductive OnceR (lo i : Nat) (Z' : Zs) (M : List Bk) (o : Er) (h' : List (List AV)) (v : AV) : Prop
 | err (c t : List UInt8) (ho : o = some (c, t)) (hm : M = []) (hv : v = .tup [.sl 0 [] (some true) .exact, erV (some (c, t))])
 | one (m : Bk) (ho : o = none) (hm : M = [m]) (hv : v = .tup [.sl 11 [bkC m] (some false) .exact, .v .nilIface])
 | many (b : Nat) (ho : o = none) (hm : M ≠ []) (hv : v = .tup [.bsl b 0 11 M.length, .v .nilIface]) (hl : lo <= b) (hb : h'[b]? = some (enc bkC M).flatten) (hn : b ∉ Z'.vars i)
theorem onceR_act {lo : Nat} {Z' : Zs} {h' : List (List AV)} (m : Bk) (o : Er) : OnceR lo i Z' (if o.isSome = true then [] else [m]) o h' (actV m o) := by
 cases o with
 | some e => exact .err e.1 e.2 rfl rfl rfl
 | none => exact .one m rfl rfl rfl
theorem enc_flat_id (M : List Bk) : ∀ c ∈ (enc bkC M).flatten, c.idOf = none := fun c hc => by
 obtain ⟨l, h1, h2⟩ := List.mem_flatten.1 hc
 obtain ⟨m, _, rfl⟩ := List.mem_map.1 h1
 simp [bkC_mk] at h2
 rcases h2 with rfl | rfl | rfl | rfl | rfl | rfl | rfl | rfl | rfl | rfl | rfl <;> rfl
theorem enc_flat_lt (n : Nat) (M : List Bk) : ltL n (enc bkC M).flatten := ltL_of fun j c hj => by
 obtain ⟨l, h1, h2⟩ := List.mem_flatten.1 (List.mem_of_getElem? hj)
 obtain ⟨m, _, rfl⟩ := List.mem_map.1 h1
 obtain ⟨q, hq⟩ := List.getElem?_of_mem h2
 exact ltL_get (by simp) q c hq
theorem act_plain (m : Bk) (o : Er) : ∃ A, actV m o = .tup [A, erV o] /\ A.unown = A /\ A.idOf = none /\ ∀ n, A.lt n := by
 refine ⟨_, rfl, ?_⟩
 cases o with
 | some e => simp
 | none => simp
set_option maxHeartbeats 1000000 in
theorem sonce_d {c : Bool} {n : Nat} (g : SsG [] h i Z) (z : ZOk c n Z) (hn : n <= 1000) (s : List UInt8) (hs : s.length <= 1000) :
  ∃ M o Z', DoesS 42 [.box i 0, .v (.string (strB s))] h i Z (OnceR h.length i Z' M o) Z' /\ ZOk c (n + 1) Z' /\ (∀ m ∈ M, BkG c m) /\ M.length <= 2000 := by
 have hvd := sverdict_c g s (by omega)
 cases ho : verdO Z s with
 | some e =>
  obtain ⟨c0, t0⟩ := e
  rw [ho] at hvd
  refine ⟨[], some (c0, t0), Z, g.idle (v := .tup [.sl 0 [] (some true) .exact, erV (some (c0, t0))]) ?_ (.err c0 t0 rfl rfl rfl), z.mono (Nat.le_succ _), (fun m hm => by cases hm), by simp⟩
  refine contract_of k42 mixed (by simp [c42]) fun hh hargs => ?_
  simp [c42]
  refine xcall_self (by simp) hvd ?_
  simp [hh]
 | none =>
  rw [ho] at hvd
  have hq := fun H => qparse_c s (by omega) H
  obtain ⟨v, hv⟩ : ∃ v, v = says s := ⟨_, rfl⟩
  have hv' : sayQ (trimL s) = v := hv.symm
  rw [hv'] at hq
  have hrw := fun H => srows_c v H
  have g2 := g.app (c := vbC v) (by simp) (by simp [vbC_mk])
  have via2 : Via h i Z [] (h ++ [vbC v]) Z := (Via.refl h i Z).app _
  have e1 : ∀ xs, (h ++ xs)[i]? = some Z.top := fun xs => g.at_ xs
  cases hrows : rowsBK v.kind with
  | false =>
   rw [hrows] at hrw
   obtain ⟨h5, w5, r5, k5, hr5, g5, t5, hl5, hw5, hs5, hv5⟩ := g2.byS (sact_d g2.none v)
   subst hr5
   obtain ⟨A, eA, a1, a2, ab⟩ := act_plain (actB Z v) (actO v)
   have via5 := via2.step hl5 hw5 hs5 hv5
   have hg5 := g5.hh
   have hab := ab h5.length
   have hl5' := via5.len
   refine ⟨_, actO v, actZ Z v, via5.does g5 (x := actV (actB Z v) (actO v)) ?_ (onceR_act _ _), (z.act v).mono (Nat.le_succ _), fun m hm => ?_, by split <;> simp⟩
   ·rw [eA] at k5 ⊢
    have hid := erV_id (actO v)
    have hel := erV_lt h5.length (actO v)
    refine contract_of k42 mixed (by simp [c42]) fun hh hargs => ?_
    simp [c42]
    refine xcall_self (by simp) hvd ?_
    simp
    refine xcall_self (by simp) (hq _) ?_
    simp
    refine xcall_self (by simp) (hrw _) ?_
    simp
    refine xcall_self (by simp) k5 ?_
    simp [a1, a2, hid, hg5, leqH_take, hab, hel]
    refine ⟨hl5', fun q hq hlt => ?_⟩
    rcases hq with hq | hq
    ·exact hq
    ·omega
   ·split at hm
    ·cases hm
    ·rw [List.mem_singleton.1 hm]; exact bkG_act c Z v
  | true =>
   rw [hrows] at hrw
   have hrf := rowsF_V c v Z.T.n (by have := z.en; omega) (ps := []) ⟨by simp, fun y hy => by cases hy⟩
   have kr := erows_c g2.eng (by have := z.en; omega) v [] (by simp) (fun y hy => by cases hy)
   obtain ⟨R, hR⟩ : ∃ R, R = rowsV v Z.T.n [] := ⟨_, rfl⟩
   rw [<- hR] at hrf kr
   have kd := fun H => sdesc_c ⟨s, []⟩ (by show s.length <= _; omega) H
   have kt := fun H => stold_c R false hrf.told.1 hrf.told.2 H
   have g3 := g2.setEng (nextV v Z.T.n)
   have z3 : ZOk c (n + 1) { Z with T := { Z.T with n := nextV v Z.T.n } } := z.setE (by have := nextV_le v Z.T.n; have := z.en; omega)
   have via3 : Via h i Z [Z.e] ((h ++ [vbC v]).set Z.e (egC Z.T.a (nextV v Z.T.n))) { Z with T := { Z.T with n := nextV v Z.T.n } } := via2.set (vars_e Z i) _ rfl
   obtain ⟨M, hM⟩ : ∃ M, M = desB ⟨s, []⟩ :: toldL R false := ⟨_, rfl⟩
   have hMl : M.length = (toldL R false).length + 1 := by rw [hM]; rfl
   have hMf : (enc bkC M).flatten = bkC (desB ⟨s, []⟩) ++ (enc bkC (toldL R false)).flatten := by rw [hM]; rfl
   have htl : (toldL R false).length = R.length + 1 := by simp [toldL]
   have hrl := hrf.1
   have g4 := g3.app (c := (enc bkC M).flatten) (enc_flat_lt _ M) (enc_flat_id M)
   have via4 := via3.app [(enc bkC M).flatten]
   obtain ⟨m4, m5⟩ := g4.tmp _ (List.mem_cons_self ..)
   have hg4 := g4.hh
   have hie : ¬ i = Z.e := g.nd4.1
   have noe := g.oe
   have noe' : ¬ h.length = Z.e := fun e => noe e.symm
   refine ⟨M, none, _, via4.does g4 (x := .tup [.bsl ((h ++ [vbC v]).set Z.e (egC Z.T.a (nextV v Z.T.n))).length 0 11 M.length, .v .nilIface]) ?_ (.many _ rfl (by rw [hM]; simp) rfl (by simp) m4 m5), z3, fun m hm => ?_, by rw [hMl, htl]; omega⟩
   ·simp only [sxC] at kd
    refine contract_of k42 mixed (by simp [c42]) fun hh hargs => ?_
    simp [c42]
    refine xcall_self (by simp) hvd ?_
    simp
    refine xcall_self (by simp) (hq _) ?_
    simp
    refine xcall_self (by simp) (hrw _) ?_
    simp [e1, Zs.top_mk]
    refine xcall_of (kd _) (by simp) (by simp) ?_
    have hne1 : toldL R false ≠ [] := by simp [toldL]
    have hne2 : enc bkC (toldL R false) ≠ [] := by simp [enc, toldL]
    have hel : (enc bkC (toldL R false)).length = R.length + 1 := by simp [htl]
    have hidT := enc_flat_id (toldL R false)
    have hid1 : ∀ c ∈ ([bkC (desB ⟨s, []⟩)] : List (List AV)).flatten, c.idOf = none := by
     have := enc_flat_id [desB ⟨s, []⟩]
     simpa [enc] using this
    have eM : R.length + 1 + 1 = M.length := by rw [hMl, htl]
    have fin : ∀ q : Nat, q = 1 + (R.length + 1) -> q = M.length := fun q hq => by omega
    have hcount : 1 + (R.length + 1) = M.length := by omega
    simp only [egC] at kr hg4
    have hll : ltLL (h.length + 1 + 1) ((h ++ [vbC v]).set Z.e [AV.mp Z.T.a 0 false, AV.v (Value.int IntKind.i64 ↑(nextV v Z.T.n))]) := by
     have := ltLL_mono (Nat.le_succ _) g3.hh
     simpa [egC] using this
    simp [noe', hie]
    refine ⟨?_, ?_⟩
    ·refine xcall_of kr (by simp) (by simp) ?_
     simp [noe', hie]
     refine xcall_self (by simp) (kt _) ?_
     simp
     refine xappendA_boxX (by simp) hid1 hne2 hidT (by simp [htl]; omega) (by simp [htl]; omega) ?_
     simp [hMf, htl, hcount, egC, leqH_take]
     exact ⟨by omega, hll, enc_flat_lt _ _⟩
    ·refine xcall_of kr (by simp) (by simp) ?_
     simp [noe', hie]
     refine ⟨?_, ?_⟩
     all_goals refine xcall_self (by simp) (kt _) ?_
     all_goals simp
     all_goals refine xappendA_boxX (by simp) hid1 hne2 hidT (by simp [htl]; omega) (by simp [htl]; omega) ?_
     all_goals simp [hMf, htl, hcount, egC, leqH_take]
     all_goals exact ⟨by omega, hll, enc_flat_lt _ _⟩
   ·rw [hM] at hm
    rcases List.mem_cons.1 hm with rfl | hm
    ·exact bkG_des c _
    ·exact bkG_told c hrf false m hm
end
section
variable {L : List (Nat × List AV)} {h : List (List AV)} {i : Nat} {Z : Zs} {c : Bool} {n : Nat}
theorem step_plain (M : List Bk) (o : Er) : ∃ B, stepV M o = .tup [B, erV o] /\ B.unown = B /\ B.idOf = none /\ ∀ n, B.lt n := by
 refine ⟨_, rfl, ?_⟩
 cases o with
 | some e => simp
 | none => simp
theorem ZOk.fail (z : ZOk c n Z) : ZOk c n (failZ Z) := by
 unfold failZ
 have h1 := z.setT (txF_right Z.status) Z.skips Z.over
 split
 ·exact h1.clear
 ·exact h1
theorem ZOk.ready (z : ZOk c n Z) : ZOk c n (readyZ Z) := by
 unfold readyZ
 split
 ·exact z.clear
 ·exact z
theorem sstep80 (g : SsG [] h i Z) (f : Fm) (hk : f.kind = 80) {M : List Bk} {o : Er} {Z2 : Zs} (d2 : DoesS 43 [.box i 0, .agg (fmC f)] (h ++ [fmC f]) i Z (fun _ r => r = stepV M o) Z2) : DoesS 25 [.box i 0, .agg (fmC f)] h i Z (fun _ r => r = stepV M o) Z2 := by
 have g1 := g.app (c := fmC f) (by simp) (by simp [fmC_mk])
 have via1 : Via h i Z [] (h ++ [fmC f]) Z := (Via.refl h i Z).app _
 obtain ⟨h5, w5, r5, k5, hr5, g5, t5, hl5, hw5, hs5, hv5⟩ := g1.byS d2
 subst hr5
 obtain ⟨B, eB, b1, b2, b3⟩ := step_plain M o
 have via5 := via1.step hl5 hw5 hs5 hv5
 have hl5' := via5.len
 have hg5 := g5.hh
 refine via5.does g5 (x := stepV M o) ?_ rfl
 rw [eB] at k5 ⊢
 have hid := erV_id o
 have hel := erV_lt h5.length o
 refine contract_of k25 mixed (by simp [c25]) fun hh hargs => ?_
 simp [c25, hk]
 refine xcall_self (by simp) k5 ?_
 simp [b1, b2, b3, hid, hel, hg5, leqH_take]
 refine ⟨hl5', fun q hq hlt => ?_⟩
 first | exact hq | (rcases hq with hq | hq; exact hq; omega)
theorem sstep66 (g : SsG [] h i Z) (f : Fm) (hk : f.kind = 66) {M : List Bk} {o : Er} {Z2 : Zs} (d2 : DoesS 44 [.box i 0, .agg (fmC f)] (h ++ [fmC f]) i Z (fun _ r => r = stepV M o) Z2) : DoesS 25 [.box i 0, .agg (fmC f)] h i Z (fun _ r => r = stepV M o) Z2 := by
 have g1 := g.app (c := fmC f) (by simp) (by simp [fmC_mk])
 have via1 : Via h i Z [] (h ++ [fmC f]) Z := (Via.refl h i Z).app _
 obtain ⟨h5, w5, r5, k5, hr5, g5, t5, hl5, hw5, hs5, hv5⟩ := g1.byS d2
 subst hr5
 obtain ⟨B, eB, b1, b2, b3⟩ := step_plain M o
 have via5 := via1.step hl5 hw5 hs5 hv5
 have hl5' := via5.len
 have hg5 := g5.hh
 refine via5.does g5 (x := stepV M o) ?_ rfl
 rw [eB] at k5 ⊢
 have hid := erV_id o
 have hel := erV_lt h5.length o
 refine contract_of k25 mixed (by simp [c25]) fun hh hargs => ?_
 simp [c25, hk]
 refine xcall_self (by simp) k5 ?_
 simp [b1, b2, b3, hid, hel, hg5, leqH_take]
 refine ⟨hl5', fun q hq hlt => ?_⟩
 first | exact hq | (rcases hq with hq | hq; exact hq; omega)
theorem sstep69 (g : SsG [] h i Z) (f : Fm) (hk : f.kind = 69) {M : List Bk} {o : Er} {Z2 : Zs} (d2 : DoesS 46 [.box i 0, .v (.string (strB f.portal)), .v (.int .i64 f.max)] (h ++ [fmC f]) i Z (fun _ r => r = stepV M o) Z2) : DoesS 25 [.box i 0, .agg (fmC f)] h i Z (fun _ r => r = stepV M o) Z2 := by
 have g1 := g.app (c := fmC f) (by simp) (by simp [fmC_mk])
 have via1 : Via h i Z [] (h ++ [fmC f]) Z := (Via.refl h i Z).app _
 obtain ⟨h5, w5, r5, k5, hr5, g5, t5, hl5, hw5, hs5, hv5⟩ := g1.byS d2
 subst hr5
 obtain ⟨B, eB, b1, b2, b3⟩ := step_plain M o
 have via5 := via1.step hl5 hw5 hs5 hv5
 have hl5' := via5.len
 have hg5 := g5.hh
 refine via5.does g5 (x := stepV M o) ?_ rfl
 rw [eB] at k5 ⊢
 have hid := erV_id o
 have hel := erV_lt h5.length o
 refine contract_of k25 mixed (by simp [c25]) fun hh hargs => ?_
 simp [c25, hk]
 refine xcall_self (by simp) k5 ?_
 simp [b1, b2, b3, hid, hel, hg5, leqH_take]
 refine ⟨hl5', fun q hq hlt => ?_⟩
 first | exact hq | (rcases hq with hq | hq; exact hq; omega)
set_option maxHeartbeats 1000000 in
theorem sstep_d (g : SsG [] h i Z) (z : ZOk c n Z) (hn : n <= 1000) (f : Fm) (hf : FmS c f) :
  ∃ M o Z', DoesS 25 [.box i 0, .agg (fmC f)] h i Z (fun _ r => r = stepV M o) Z' /\ ZOk c (n + 1) Z' /\ ∀ m ∈ M, BkG c m := by
 have g1 := g.app (c := fmC f) (by simp) (by simp [fmC_mk])
 have via1 : Via h i Z [] (h ++ [fmC f]) Z := (Via.refl h i Z).app _
 have hfn := hf.name
 have hfp := hf.portal
 have hft := hf.text
 by_cases k80 : f.kind = 80
 ·exact ⟨[pB 49], parseO Z f, parseZ Z f, sstep80 g f k80 (sparse_d g1.none z.ko f (by omega) (by omega) (by have := hf.oids.1; omega)), z.parse hf, fun m hm => by rw [List.mem_singleton.1 hm]; exact bkG_pB c (by simp)⟩
 have k80' : (f.kind == 80) = false := by simpa using k80
 by_cases k66 : f.kind = 66
 ·obtain ⟨Z2, d2, q1, q2⟩ := sbind_d g1.none z.po z.short f (by omega) (by omega) ⟨hf.params.1, fun x hx => by have := (hf.params.2 x hx).1; omega⟩
  have z2 : ZOk c (n + 1) Z2 := by
   cases ho : bindO Z f with
   | some e => rw [q1 (by rw [ho]; simp)]; exact z.mono (Nat.le_succ _)
   | none =>
    obtain ⟨x, s, hs, hx, e⟩ := q2 ho
    have hsz := z.get hs
    rw [e]
    exact (z.putP f.portal (x := x) (by rw [hx]; exact ⟨hsz.1, hsz.2.1, hf.params, ⟨by simp [bindPt], fun r hr => by simp [bindPt] at hr⟩⟩)).mono (Nat.le_succ _)
  exact ⟨[pB 50], bindO Z f, Z2, sstep66 g f k66 d2, z2, fun m hm => by rw [List.mem_singleton.1 hm]; exact bkG_pB c (by simp)⟩
 have k66' : (f.kind == 66) = false := by simpa using k66
 by_cases k68 : f.kind = 68
 ·have k5 := sdescribe_c g1.none z.po z.short z.shortP f (by omega) (by omega)
  obtain ⟨B, eB, b1, b2, b3⟩ := step_plain (descR Z f).1 (descR Z f).2
  refine ⟨(descR Z f).1, (descR Z f).2, Z, g.idle (v := stepV (descR Z f).1 (descR Z f).2) ?_ rfl, z.mono (Nat.le_succ _), bkG_desc z f⟩
  rw [eB] at k5 ⊢
  have hid := erV_id (descR Z f).2
  have hel := erV_lt h.length (descR Z f).2
  refine contract_of k25 mixed (by simp [c25]) fun hh hargs => ?_
  simp [c25, k80, k80', k66, k66', k68]
  refine xcall_self (by simp) k5 ?_
  simp [b1, b2, b3, hid, hel, hh, leqH_take]
 have k68' : (f.kind == 68) = false := by simpa using k68
 by_cases k69 : f.kind = 69
 ·obtain ⟨M, o, Z2, d2, z2, m2, _⟩ := sexec_d g1.none z hn f.portal (by omega) f.max
  exact ⟨M, o, Z2, sstep69 g f k69 d2, z2, m2⟩
 have k69' : (f.kind == 69) = false := by simpa using k69
 by_cases k67 : f.kind = 67
 ·obtain ⟨h5, w5, r5, k5, hr5, g5, t5, hl5, hw5, hs5, hv5⟩ := g1.byS (sclose_d g1.none f)
  subst hr5
  have via5 := via1.step hl5 hw5 hs5 hv5
  have hl5' := via5.len
  have hg5 := g5.hh
  refine ⟨closeL f, none, closeZ Z f, via5.does g5 (x := stepV (closeL f) none) ?_ rfl, (z.close f).mono (Nat.le_succ _), bkG_close c f⟩
  refine contract_of k25 mixed (by simp [c25]) fun hh hargs => ?_
  simp [c25, k80, k80', k66, k66', k68, k68', k69, k69', k67]
  refine xcall_self (by simp) k5 ?_
  simp [stepV, hg5, leqH_take]
  refine ⟨hl5', fun q hq hlt => ?_⟩
  first | exact hq | (rcases hq with hq | hq; exact hq; omega)
 have k67' : (f.kind == 67) = false := by simpa using k67
 refine ⟨[], none, Z, g.idle (v := stepV [] none) ?_ rfl, z.mono (Nat.le_succ _), fun m hm => by cases hm⟩
 refine contract_of k25 mixed (by simp [c25]) fun hh hargs => ?_
 simp [c25, k80, k80', k66, k66', k68, k68', k69, k69', k67, k67', stepV, hh, leqH_take]
inductive RepX (lo i : Nat) (Z' : Zs) (M : List Bk) (h' : List (List AV)) (v : AV) : Prop
 | sl (hv : v = .sl 11 (enc bkC M) none .no)
 | bx (b : Nat) (hl : lo <= b) (hv : v = .bsl b 0 11 M.length) (hb : h'[b]? = some (enc bkC M).flatten) (hn : b ∉ Z'.vars i)
theorem SsG.more (g : SsG L h i Z) {b : Nat} {cs : List AV} (hb : h[b]? = some cs) (hn : b ∉ Z.vars i) : SsG ((b, cs) :: L) h i Z := ⟨g.top, g.eng, g.ents, g.por, g.nd, g.sep, fun t ht => by
 rcases List.mem_cons.1 ht with rfl | ht
 ·exact ⟨hb, hn⟩
 ·exact g.tmp t ht, g.pl⟩
theorem ready_status (Z : Zs) : (readyZ Z).status = Z.status := rfl
set_option maxHeartbeats 2000000 in
theorem squery_d (g : SsG [] h i Z) (z : ZOk c n Z) (hn : n <= 1000) (s : List UInt8) (hs : s.length <= 1000) :
  ∃ M Z', DoesS 24 [.box i 0, .v (.string (strB s))] h i Z (RepX h.length i Z' (M ++ [zB Z'.status])) Z' /\ ZOk c (n + 1) Z' /\ ∀ m ∈ M, BkG c m := by
 have g1 := g.setEnts Z.clock (KE.del [] Z.st)
 have z1 := z.del []
 have via1 : Via h i Z [Z.a] (h.set Z.a (Z.del []).cells) (Z.del []) := (Via.refl h i Z).set (vars_a Z i) _ rfl
 have hd := Z.del_cells []
 have h1 := g.top
 have h2 := g.ents
 have h3 := Z.of_cells
 have h4 := Z.keys
 have f1 : (h.set Z.a (Z.del []).cells)[i]? = some Z.top := by rw [List.getElem?_set_ne (Ne.symm g.nd4.2.2.1)]; exact g.top
 obtain ⟨H2, w2, k2, g2, t2, hl2, hw2, hs2, hv2⟩ := g1.byP (pdel_d g1.por [])
 have z2 := z1.delP []
 have via2 := via1.byP hl2 hw2 hs2 hv2
 obtain ⟨M, o, Z3, d3, z3, m3, l3⟩ := sonce_d (Z := { (Z.del []) with S := (Z.del []).S.del [] }) g2 z2 hn s hs
 obtain ⟨H3, w3, v3, k3, r3, g3, t3, hl3, hw3, hs3, hv3⟩ := g2.byS d3
 have via3 := via2.step hl3 hw3 hs3 hv3
 have fin : True := trivial
 cases r3 with
 | err c0 t0 ho hm hv =>
  subst hv
  obtain ⟨H4, w4, v4, k4, r4, g4, t4, hl4, hw4, hs4, hv4⟩ := g3.byS (sblame_d g3 c0 t0)
  subst r4
  have via4 := via3.step hl4 hw4 hs4 hv4
  obtain ⟨H5, w5, v5, k5, r5, g5, t5, hl5, hw5, hs5, hv5⟩ := g4.byS (sready_d g4)
  subst r5
  have via5 := via4.step hl5 hw5 hs5 hv5
  have hg5 := g5.hh
  have hl := via5.len
  refine ⟨[erF c0 t0], readyZ (failZ Z3), via5.does g5 (x := .sl 11 (enc bkC ([erF c0 t0] ++ [zB (readyZ (failZ Z3)).status])) none .no) ?_ (.sl rfl), z3.fail.ready, fun m hm => by rw [List.mem_singleton.1 hm]; exact bkG_er c _ _⟩
  rw [ready_status]
  refine contract_of k24 mixed (by simp [c24]) fun hh hargs => ?_
  simp [c24, h1, h2, h3, h4, hd, Zs.top_mk, f1]
  refine xcall_self (by simp) k2 ?_
  simp
  refine xcall_self (by simp) k3 ?_
  simp
  refine xcall_self (by simp) k4 ?_
  simp
  refine xappendA_own ?_
  simp
  refine xcall_self (by simp) k5 ?_
  simp [hg5, leqH_take]
  exact ⟨hl, fun q hq _ => hq⟩
 | one m ho hm hv =>
  subst hv hm
  have kb := sblame_n g3
  obtain ⟨H5, w5, v5, k5, r5, g5, t5, hl5, hw5, hs5, hv5⟩ := g3.byS (sready_d g3)
  subst r5
  have via5 := via3.step hl5 hw5 hs5 hv5
  have hg5 := g5.hh
  have hl := via5.len
  refine ⟨[m], readyZ Z3, via5.does g5 (x := .sl 11 (enc bkC ([m] ++ [zB (readyZ Z3).status])) none .no) ?_ (.sl rfl), z3.ready, m3⟩
  rw [ready_status]
  refine contract_of k24 mixed (by simp [c24]) fun hh hargs => ?_
  simp [c24, h1, h2, h3, h4, hd, Zs.top_mk, f1]
  refine xcall_self (by simp) k2 ?_
  simp
  refine xcall_self (by simp) k3 ?_
  simp
  refine xcall_self (by simp) kb ?_
  simp
  refine xappendA_own ?_
  simp
  refine xcall_self (by simp) k5 ?_
  simp [hg5, leqH_take]
  exact ⟨hl, fun q hq _ => hq⟩
 | many b ho hm hv hlb hb hnb =>
  subst hv
  have kb := sblame_n g3
  have g3b := g3.more hb hnb
  obtain ⟨H5, w5, v5, k5, r5, g5, t5, hl5, hw5, hs5, hv5⟩ := g3b.byS (sready_d g3)
  subst r5
  obtain ⟨b1, b2⟩ := g5.tmp _ (List.mem_cons_self ..)
  have b3 := t5 _ (List.mem_cons_self ..)
  dsimp only at b1 b2 b3
  have hbl : h.length <= b := by have := via2.len; omega
  have via5 := via3.step hl5 hw5 hs5 hv5
  have g6 := g5.none.setTmp (t := b) b2 (fun x hx => by cases hx) (c := []) trivial (fun x hx => by cases hx)
  have via6 := via5.new hbl []
  obtain ⟨X, hX⟩ : ∃ X, X = (enc bkC (M ++ [zB Z3.status])).flatten := ⟨_, rfl⟩
  have hXe : X = (enc bkC M).flatten ++ bkC (zB Z3.status) := by rw [hX]; simp [enc]
  have g7 := g6.app (c := X) (by rw [hX]; exact enc_flat_lt _ _) (by rw [hX]; exact enc_flat_id _)
  have via7 := via6.app [X]
  obtain ⟨m7, n7⟩ := g7.tmp _ (List.mem_cons_self ..)
  have hg7 := g7.hh
  have hl := via7.len
  have hne : (enc bkC M).flatten ≠ [] := by
   cases M with
   | nil => exact absurd rfl hm
   | cons a r => simp [enc, bkC_mk]
  have hfl : (enc bkC M).flatten.length = M.length * 11 := by
   have : ∀ M : List Bk, (enc bkC M).flatten.length = M.length * 11 := fun M => by
    induction M with
    | nil => rfl
    | cons a r ih => rw [enc_cons, List.flatten_cons, List.length_append, ih]; simp; omega
   exact this M
  have hcnt : (M ++ [zB Z3.status]).length = M.length + 1 := by simp
  have hMl : M.length <= 100000 := by omega
  have htk : (enc bkC M).flatten.take (M.length * 11) = (enc bkC M).flatten := List.take_of_length_le (by omega)
  have hlt5 : ltLL (H5.length + 1) (H5.set b []) := by
   have := ltLL_mono (Nat.le_succ _) g6.hh
   simpa using this
  have hlm := fun k => enc_flat_lt k M
  have hl5' := via5.len
  refine ⟨M, readyZ Z3, via7.does g7 (x := .bsl (H5.set b []).length 0 11 (M ++ [zB (readyZ Z3).status]).length) ?_ (.bx _ (by have := via6.len; exact this) rfl (by rw [ready_status, <- hX]; exact m7) n7), z3.ready, m3⟩
  rw [ready_status, hcnt]
  simp only [zB, bkC_mk] at hXe k5
  have hidZ := enc_flat_id [zB Z3.status]
  have hidM := enc_flat_id M
  refine contract_of k24 mixed (by simp [c24]) fun hh hargs => ?_
  simp [c24, h1, h2, h3, h4, hd, Zs.top_mk, f1]
  refine xcall_self (by simp) k2 ?_
  simp
  refine xcall_self (by simp) k3 ?_
  simp
  refine xcall_self (by simp) kb ?_
  simp
  refine xappendA_0bsl (by omega) ?_
  simp
  refine xcall_self (by simp) k5 ?_
  simp
  refine xappendA_bsl b1 hne (by omega) hidM (by simp) (by simp) (by simp; omega) (by simp; omega) ?_
  simp [htk, hXe, hlt5, hlm, leqH_take]
  exact ⟨by omega, fun q hq _ => .inr hq⟩
end
section
variable {L : List (Nat × List AV)} {h : List (List AV)} {i : Nat} {Z : Zs} {c : Bool} {n : Nat}
def lisB (Z : Zs) (k : Int) : Bool := !Z.over && (!Z.skips || decide (k = 83 \/ k = 88))
theorem slistens_c (g : SsG L h i Z) (k : Int) : Contract Tryz.prog 22 [.box i 0, .v (.int .u8 k)] h (.v (.bool (lisB Z k))) h [] := by
 have h1 := g.top
 unfold lisB
 refine contract_of k22 mixed (by simp [c22]) fun hh hargs => ?_
 cases ho : Z.over with
 | true => simp [c22, h1, Zs.top_mk, ho, hh]
 | false =>
  cases hs : Z.skips with
  | false => simp [c22, h1, Zs.top_mk, ho, hs, hh]
  | true =>
   by_cases k83 : k = 83
   ·simp [c22, h1, Zs.top_mk, ho, hs, hh, k83]
   ·have k83' : (k == 83) = false := by simpa using k83
    by_cases k88 : k = 88 <;> simp [c22, h1, Zs.top_mk, ho, hs, hh, k83, k83', k88]
def wantZ (Z : Zs) (f : Fm) : Bool := !Z.over && (decide (f.kind = 83) || (decide (f.kind = 81) && !Z.skips))
theorem sdo_deaf (g : SsG [] h i Z) (f : Fm) (hl : lisB Z f.kind = false) : Contract Tryz.prog 10 [.box i 0, .agg (fmC f)] h (.sl 11 [] none .no) h [] := by
 have g1 := g.app (c := fmC f) (by simp) (by simp [fmC_mk])
 have kl := slistens_c g1 f.kind
 rw [hl] at kl
 refine contract_of k10 mixed (by simp [c10]) fun hh hargs => ?_
 simp [c10]
 refine xcall_self (by simp) kl ?_
 simp [hh, leqH_take]
theorem lis_yes {Z : Zs} {k : Int} (h : lisB Z k = true) : Z.over = false /\ (Z.skips = false \/ k = 83 \/ k = 88) := by
 unfold lisB at h
 cases ho : Z.over <;> cases hs : Z.skips <;> simp [ho, hs] at h ⊢
 exact h
theorem sdo_sync (g : SsG [] h i Z) (f : Fm) (hl : lisB Z f.kind = true) (k83 : f.kind = 83) :
  DoesS 10 [.box i 0, .agg (fmC f)] h i Z (fun _ v => v = .sl 11 (enc bkC [zB Z.status]) none .no) (readyZ { Z with skips := false }) := by
 have g1 := g.app (c := fmC f) (by simp) (by simp [fmC_mk])
 have kl := slistens_c g1 f.kind
 rw [hl, k83] at kl
 have e1 : ∀ xs, (h ++ xs)[i]? = some Z.top := fun xs => g.at_ xs
 have e3 : ∀ xs cs, (h ++ xs).set i cs = h.set i cs ++ xs := fun xs cs => List.set_append_left _ _ g.i_lt
 have g2 := (g.setTop Z.status false Z.over).app (c := fmC f) (by simp) (by simp [fmC_mk])
 have via2 : Via h i Z [i] (h.set i { Z with status := Z.status, skips := false, over := Z.over }.top ++ [fmC f]) { Z with status := Z.status, skips := false, over := Z.over } := ((Via.refl h i Z).set (vars_i Z i) _ (Z2 := { Z with status := Z.status, skips := false, over := Z.over }) rfl).app _
 obtain ⟨H5, w5, v5, k5, r5, g5, t5, hl5, hw5, hs5, hv5⟩ := g2.byS (sready_d g2.none)
 subst r5
 have via5 := via2.step hl5 hw5 hs5 hv5
 have hg5 := g5.hh
 have hlen := via5.len
 refine via5.does g5 (x := .sl 11 (enc bkC [zB Z.status]) none .no) ?_ rfl
 simp only [Zs.top_mk] at k5
 refine contract_of k10 mixed (by simp [c10]) fun hh hargs => ?_
 simp [c10, k83]
 refine xcall_self (by simp) kl ?_
 simp [k83, e1, Zs.top_mk, e3]
 refine xcall_self (by simp) k5 ?_
 simp [hg5, leqH_take, hlen]
 intro q hq _
 first | exact hq | exact hq.symm | (rcases hq with hq | hq <;> simp [hq])
theorem DoesS.imp {f : FuncId} {args : List AV} {r r' : List (List AV) -> AV -> Prop} {Z' : Zs} (d : DoesS f args h i Z r Z') (hr : ∀ h' v, r h' v -> r' h' v) : DoesS f args h i Z r' Z' := by
 obtain ⟨h', wr, v, k, h1, rest⟩ := d
 exact ⟨h', wr, v, k, hr _ _ h1, rest⟩
theorem sdo_step (g : SsG [] h i Z) (f : Fm) (hl : lisB Z f.kind = true) (k83 : ¬ f.kind = 83) (k88 : ¬ f.kind = 88) (k81 : ¬ f.kind = 81) {M : List Bk} {Z2 : Zs} (d2 : DoesS 25 [.box i 0, .agg (fmC f)] (h ++ [fmC f]) i Z (fun _ r => r = stepV M none) Z2) :
  DoesS 10 [.box i 0, .agg (fmC f)] h i Z (fun _ v => v = .sl 11 (enc bkC M) none .no) { Z2 with status := Z2.status, skips := false, over := Z2.over } := by
 have k83' : (f.kind == 83) = false := by simpa using k83
 have k88' : (f.kind == 88) = false := by simpa using k88
 have k81' : (f.kind == 81) = false := by simpa using k81
 have g1 := g.app (c := fmC f) (by simp) (by simp [fmC_mk])
 have via1 : Via h i Z [] (h ++ [fmC f]) Z := (Via.refl h i Z).app _
 have kl := slistens_c g1 f.kind
 rw [hl] at kl
 obtain ⟨H2, w2, r2, k2, hr2, g2, t2, hl2, hw2, hs2, hv2⟩ := g1.byS d2
 subst hr2
 have via2 := via1.step hl2 hw2 hs2 hv2
 have top2 := g2.top
 have g3 := g2.setTop Z2.status false Z2.over
 have via3 : Via h i Z (i :: (w2 ++ [])) (H2.set i { Z2 with status := Z2.status, skips := false, over := Z2.over }.top) { Z2 with status := Z2.status, skips := false, over := Z2.over } := via2.set (vars_i Z2 i) _ rfl
 have kb := sblame_n g3
 have hg3 := g3.hh
 have hlen := via3.len
 refine via3.does g3 (x := .sl 11 (enc bkC M) none .no) ?_ rfl
 simp only [Zs.top_mk] at kb hg3 hlen ⊢
 simp only [stepV_none] at k2
 refine contract_of k10 mixed (by simp [c10]) fun hh hargs => ?_
 simp [c10, k83, k83', k88, k88', k81, k81']
 refine xcall_self (by simp) kl ?_
 simp [k83, k83', k88, k88', k81, k81']
 refine xcall_self (by simp) k2 ?_
 simp [top2, Zs.top_mk]
 refine xcall_self (by simp) kb ?_
 simp
 refine xappendA_0sl (by omega) ?_
 simp at hg3 hlen
 simp [hg3, leqH_take, hlen, leqC_same]
 exact fun q hq _ => .inr hq
theorem sdo_stop (g : SsG [] h i Z) (f : Fm) (hl : lisB Z f.kind = true) (k83 : ¬ f.kind = 83) (k88 : ¬ f.kind = 88) (k81 : ¬ f.kind = 81) {M : List Bk} {c0 t0 : List UInt8} {Z2 : Zs} (d2 : DoesS 25 [.box i 0, .agg (fmC f)] (h ++ [fmC f]) i Z (fun _ r => r = stepV M (some (c0, t0))) Z2) :
  DoesS 10 [.box i 0, .agg (fmC f)] h i Z (fun _ v => v = .sl 11 (enc bkC [erF c0 t0]) none .no) (failZ { Z2 with status := Z2.status, skips := true, over := Z2.over }) := by
 have k83' : (f.kind == 83) = false := by simpa using k83
 have k88' : (f.kind == 88) = false := by simpa using k88
 have k81' : (f.kind == 81) = false := by simpa using k81
 have g1 := g.app (c := fmC f) (by simp) (by simp [fmC_mk])
 have via1 : Via h i Z [] (h ++ [fmC f]) Z := (Via.refl h i Z).app _
 have kl := slistens_c g1 f.kind
 rw [hl] at kl
 obtain ⟨H2, w2, r2, k2, hr2, g2, t2, hl2, hw2, hs2, hv2⟩ := g1.byS d2
 subst hr2
 have via2 := via1.step hl2 hw2 hs2 hv2
 have top2 := g2.top
 have g3 := g2.setTop Z2.status true Z2.over
 have via3 : Via h i Z (i :: (w2 ++ [])) (H2.set i { Z2 with status := Z2.status, skips := true, over := Z2.over }.top) { Z2 with status := Z2.status, skips := true, over := Z2.over } := via2.set (vars_i Z2 i) _ rfl
 obtain ⟨h4, w4, r4, k4, hr4, g4, t4, hl4, hw4, hs4, hv4⟩ := g3.byS (sblame_d g3.none c0 t0)
 subst hr4
 have via4 := via3.step hl4 hw4 hs4 hv4
 have hg4 := g4.hh
 have hlen := via4.len
 refine via4.does g4 (x := .sl 11 (enc bkC [erF c0 t0]) none .no) ?_ rfl
 simp only [Zs.top_mk] at k4
 simp only [stepV_some] at k2
 simp only [erV_some] at k4
 refine contract_of k10 mixed (by simp [c10]) fun hh hargs => ?_
 simp [c10, k83, k83', k88, k88', k81, k81']
 refine xcall_self (by simp) kl ?_
 simp [k83, k83', k88, k88', k81, k81']
 refine xcall_self (by simp) k2 ?_
 simp [top2, Zs.top_mk]
 refine xcall_self (by simp) k4 ?_
 simp
 refine xappendA_own ?_
 simp [hg4, leqH_take, hlen]
 exact fun q hq _ => hq
set_option maxHeartbeats 1000000 in
theorem sdo_d (g : SsG [] h i Z) (z : ZOk c n Z) (hn : n <= 1000) (f : Fm) (hf : FmS c f) :
  ∃ M Z', DoesS 10 [.box i 0, .agg (fmC f)] h i Z (RepX h.length i Z' (M ++ (if wantZ Z f = true then [zB Z'.status] else []))) Z' /\ ZOk c (n + 1) Z' /\ ∀ m ∈ M, BkG c m := by
 cases hl : lisB Z f.kind with
 | false =>
  have hw : wantZ Z f = false := by
   unfold lisB at hl
   unfold wantZ
   cases ho : Z.over <;> cases hs : Z.skips <;> simp [ho, hs] at hl ⊢
   exact hl.1
  exact ⟨[], Z, g.idle (sdo_deaf g f hl) (by rw [hw]; exact .sl rfl), z.mono (Nat.le_succ _), fun m hm => by cases hm⟩
 | true =>
  obtain ⟨ho, hsk⟩ := lis_yes hl
  by_cases k83 : f.kind = 83
  ·have hw : wantZ Z f = true := by unfold wantZ; simp [ho, k83]
   obtain ⟨h', wr, v, kk, hv, rest⟩ := sdo_sync g f hl k83
   refine ⟨[], readyZ { Z with skips := false }, ⟨h', wr, v, kk, ?_, rest⟩, ((z.setT z.st false Z.over).ready).mono (Nat.le_succ _), fun m hm => by cases hm⟩
   rw [hw]
   exact .sl hv
  have k83' : (f.kind == 83) = false := by simpa using k83
  have g1 := g.app (c := fmC f) (by simp) (by simp [fmC_mk])
  have via1 : Via h i Z [] (h ++ [fmC f]) Z := (Via.refl h i Z).app _
  have kl := slistens_c g1 f.kind
  rw [hl] at kl
  have e1 : ∀ xs, (h ++ xs)[i]? = some Z.top := fun xs => g.at_ xs
  have e3 : ∀ xs cs, (h ++ xs).set i cs = h.set i cs ++ xs := fun xs cs => List.set_append_left _ _ g.i_lt
  by_cases k88 : f.kind = 88
  ·have hw : wantZ Z f = false := by unfold wantZ; simp [k88]
   refine ⟨[], { Z with status := Z.status, skips := Z.skips, over := true }, g.turned Z.status Z.skips true (v := .sl 11 [] none .no) ?_ (fun h' => by rw [hw]; exact .sl rfl), (z.setT z.st Z.skips true).mono (Nat.le_succ _), fun m hm => by cases hm⟩
   have hlt := ltLL_set (i := i) g.hh (Zs.top_lt { Z with over := true } g.e_lt g.a_lt g.p_lt)
   simp only [Zs.top_mk] at hlt ⊢
   rw [k88] at kl
   refine contract_of k10 mixed (by simp [c10]) fun hh hargs => ?_
   simp [c10, k88]
   refine xcall_self (by simp) kl ?_
   simp [k88, e1, Zs.top_mk, e3, hlt, leqH_take, leqC_same]
  have k88' : (f.kind == 88) = false := by simpa using k88
  have hns : Z.skips = false := hsk.resolve_right (by rintro (e | e); exact k83 e; exact k88 e)
  by_cases k81 : f.kind = 81
  ·have hw : wantZ Z f = true := by unfold wantZ; simp [ho, k81, hns]
   obtain ⟨M, Z2, d2, z2, m2⟩ := squery_d g1.none z hn f.text hf.text
   obtain ⟨h5, w5, r5, k5, hr5, g5, t5, hl5, hw5, hs5, hv5⟩ := g1.byS d2
   have via5 := via1.step hl5 hw5 hs5 hv5
   have hlen := via5.len
   have hg5 := g5.hh
   rw [k81] at kl
   cases hr5 with
   | sl hv =>
    subst hv
    refine ⟨M, Z2, via5.does g5 (x := .sl 11 (enc bkC (M ++ [zB Z2.status])) none .no) ?_ (by rw [hw]; exact .sl rfl), z2, m2⟩
    refine contract_of k10 mixed (by simp [c10]) fun hh hargs => ?_
    simp [c10, k81]
    refine xcall_self (by simp) kl ?_
    simp [k81]
    refine xcall_self (by simp) k5 ?_
    simp [hg5, leqH_take, hlen]
    exact fun q hq _ => hq
   | bx b hlb hv hb hnb =>
    subst hv
    have hbl : b < h5.length := (List.getElem?_eq_some_iff.1 hb).1
    refine ⟨M, Z2, via5.does g5 (x := .bsl b 0 11 (M ++ [zB Z2.status]).length) ?_ (by rw [hw]; exact .bx b (by simp at hlb; omega) rfl hb hnb), z2, m2⟩
    refine contract_of k10 mixed (by simp [c10]) fun hh hargs => ?_
    simp [c10, k81]
    refine xcall_self (by simp) kl ?_
    simp [k81]
    refine xcall_self (by simp) k5 ?_
    simp [hg5, leqH_take, hlen, hbl]
    exact fun q hq _ => hq
  have hw : wantZ Z f = false := by unfold wantZ; simp [k83, k81]
  obtain ⟨M, o, Z2, d2, z2, m2⟩ := sstep_d g1.none z hn f hf
  cases o with
  | none => exact ⟨M, _, (sdo_step g f hl k83 k88 k81 d2).imp fun h' v hv => by rw [hw]; exact .sl (by simpa using hv), z2.setT z2.st false Z2.over, m2⟩
  | some e =>
   obtain ⟨c0, t0⟩ := e
   exact ⟨[erF c0 t0], _, (sdo_stop g f hl k83 k88 k81 d2).imp fun h' v hv => by rw [hw]; exact .sl (by simpa using hv), (z2.setT z2.st true Z2.over).fail, fun m hm => by rw [List.mem_singleton.1 hm]; exact bkG_er c _ _⟩
end
section
variable {L : List (Nat × List AV)} {h : List (List AV)} {i : Nat} {Z : Zs}
theorem sstatus_c (g : SsG L h i Z) : Contract Tryz.prog 14 [.box i 0] h (.v (.int .u8 Z.status)) h [] := by
 have h1 := g.top
 refine contract_of k14 mixed (by simp [c14]) fun hh hargs => ?_
 simp [c14, h1, Zs.top_mk, hh]
theorem sskips_c (g : SsG L h i Z) : Contract Tryz.prog 11 [.box i 0] h (.v (.bool Z.skips)) h [] := by
 have h1 := g.top
 refine contract_of k11 mixed (by simp [c11]) fun hh hargs => ?_
 simp [c11, h1, Zs.top_mk, hh]
theorem sover_c {x0 x1 x2 x3 x4 : AV} {b : Bool} (h1 : h[i]? = some [x0, x1, x2, x3, x4, .v (.bool b)]) : Contract Tryz.prog 12 [.box i 0] h (.v (.bool b)) h [] := by
 refine contract_of k12 mixed (by simp [c12]) fun hh hargs => ?_
 simp [c12, h1, hh]
def namesK (l : List (KE Sx)) : List (List UInt8) := sortS (l.map KE.key)
theorem snames_c {a clock : Nat} {l : List (KE Sx)} {x0 x2 x3 x4 x5 : AV} (e1 : h[i]? = some [x0, .mp a 2 false, x2, x3, x4, x5]) (e2 : h[a]? = some (mapC clock (l.map (KE.ent sxC)))) (ho : KE.Ok clock l) (hlen : l.length <= 4096) (hp : plainH h) :
  Contract Tryz.prog 13 [.box i 0] h (.sl 1 (enc strC (namesK l)) none .no) h [] := by
 have hi := (List.getElem?_eq_some_iff.1 e1).1
 have hla := (List.getElem?_eq_some_iff.1 e2).1
 have e3 := KE.ents_of sxC_len clock l
 have g2 : ∀ xs, (h ++ xs)[a]? = some (mapC clock (l.map (KE.ent sxC))) := fun xs => by rw [List.getElem?_append_left hla]; exact e2
 obtain ⟨MC, hMC⟩ : ∃ MC, MC = mapC clock (l.map (KE.ent sxC)) := ⟨_, rfl⟩
 rw [<- hMC] at e2 e3 g2
 refine contract_of k13 mixed (by simp [c13]) fun hh hargs => ?_
 simp [c13, e1, e2, e3]
 refine xloop_ok (D := List (KE Sx)) (fun seen => ⟨[(0, .box i 0), (11, .itr h.length (some a) 2 false)], [(3, .sl 1 (enc strC (seen.map KE.key)) none (.own (.new 3)))], h ++ [itC clock clock (seen.map KE.born)], []⟩) (fun seen => KE.Seen l seen) (fun seen => l.length - seen.length) [] ⟨List.nodup_nil, fun x hx => by cases hx⟩ ?_ ?_
 ·simp [Leq, hh, hargs, hi, hla, leqH_take, itC]
  omega
 ·intro seen hs
  simp [g2, e3]
  refine ⟨fun a ha => ho.lt a ha, fun hall => ?_, ?_⟩
  ·have hperm := hs.perm ho fun x hx => hall x hx
   have hlen2 : (seen.map KE.key).length <= 4096 := by rw [List.length_map, hperm.length_eq]; exact hlen
   have hsort : sortS (seen.map KE.key) = namesK l := sortS_perm (hperm.map _)
   refine ⟨strV (seen.map KE.key), strV (sortS (seen.map KE.key)), 1, none, .own (.new 3), by rw [vE_strV]; rfl, .inl ⟨rfl, _, rfl, rfl⟩, sort_strs (seen.map KE.key) (by omega), ⟨by simp, hp⟩, by simp, ?_⟩
   rw [vE_strV, hsort]
   have hres : ∀ m (es : List (List AV)), resOf m (.sl 1 es none (.own (.new 2))) = .sl 1 es none (.own .res) := fun _ _ => rfl
   simp [St.sorted, St.calm, hh, hres]
   done
  ·intro a ha hnew
   have hb := KE.at_born (f := sxC) ho.borns ha
   have hkey : (KE.ent sxC a).key = .string (strB a.key) := rfl
   have hborn : (KE.ent sxC a).born = a.born := rfl
   have hout : a ∉ seen := fun hx => hnew a hx rfl
   have hs2 := hs.snoc ha hout
   have hle := hs2.le
   simp at hle
   simp [hb, hkey, hborn]
   refine ⟨by omega, by omega, seen ++ [a], hs2, by simp; omega, ?_⟩
   simp [Leq, hh, hargs, hi, hla, leqH_take, itC, strC, enc, KE.ent, sxC]
   refine ⟨ltL_of fun j c hc => ?_, ltLL_of' fun j c hc => ?_, by omega, by omega⟩
   ·obtain ⟨b, _, rfl⟩ := List.mem_map.1 (List.mem_of_getElem? hc); simp
   ·obtain ⟨b, _, rfl⟩ := List.mem_map.1 (List.mem_of_getElem? hc); simp [strC]
theorem SsG.names {c : Bool} {n : Nat} (g : SsG L h i Z) (z : ZOk c n Z) (hn : n <= 1000) : Contract Tryz.prog 13 [.box i 0] h (.sl 1 (enc strC (namesK Z.st)) Option.none .no) h [] :=
 snames_c g.top g.ents z.ko (by have := z.len; omega) g.pl
theorem snew_c (e : AV) (he : e.idOf = none) (hu : e.cells = some [e]) (hun : e.unown = e) (h : List (List AV)) (hl : e.lt h.length) : Contract Tryz.prog 8 [e] h (.box (h.length + 3) 0) (h ++ [mapC 0 [], mapC 0 [], [.mp (h.length + 1) 1 true], [e, .mp h.length 2 false, .box (h.length + 2) 0, .v (.int .u8 73), .v (.bool false), .v (.bool false)]]) [] := by
 refine contract_of k8 mixed (by simp [c8]) fun hh hargs => ?_
 have hl4 := ltLL_mono (Nat.le_add_right h.length 4) hh
 have hle := lt_mono (Nat.le_add_right h.length 4) hl
 simp [c8, he]
 refine xcall_self (by simp) (pnew_c _) ?_
 simp [he, hu, hun]
 simp [mapC, hl4, hle]
def z0 (b : Nat) : Zs := ⟨b + 1, newE b, b + 2, 0, [], b + 4, newS (b + 3), 73, false, false⟩
def heap0 (h : List (List AV)) : List (List AV) := h ++ [mapC 0 [], egC h.length 0, mapC 0 [], mapC 0 [], [.mp (h.length + 3) 1 true], (z0 h.length).top]
theorem z0_at (hh : ltLL h.length h) (hp : plainH h) : SsG [] (heap0 h) (h.length + 5) (z0 h.length) := by
 have at_ : ∀ (j : Nat) (l : List (List AV)), (h ++ l)[h.length + j]? = l[j]? := fun j l => by rw [List.getElem?_append_right (by omega)]; simp
 have hl := ltLL_mono (Nat.le_add_right h.length 6) hh
 refine ⟨?_, ⟨?_, ?_, ?_⟩, ?_, ⟨?_, ?_, fun x hx => (by cases hx), fun x hx => (by cases hx), fun x hx => (by cases hx), fun x hx => (by cases hx), ?_, ?_⟩, ?_, ?_, fun t ht => (by cases ht), ?_⟩
 ·unfold heap0; rw [at_]; rfl
 ·unfold heap0; show (h ++ _)[h.length + 1]? = _; rw [at_]; rfl
 ·unfold heap0; show (h ++ _)[h.length]? = _; rw [List.getElem?_append_right (Nat.le_refl _)]; simp [z0, newE, Eg.cells]
 ·show h.length + 1 ≠ h.length; omega
 ·unfold heap0; show (h ++ _)[h.length + 2]? = _; rw [at_]; rfl
 ·unfold heap0; show (h ++ _)[h.length + 4]? = _; rw [at_]; rfl
 ·unfold heap0; show (h ++ _)[h.length + 3]? = _; rw [at_]; rfl
 ·show h.length + 4 ≠ h.length + 3; omega
 ·unfold heap0; simp [z0, Zs.top, egC, mapC, hl]
 ·simp [Zs.own, z0, newE]
 ·intro q hq
  simp [Zs.own, z0, newE] at hq
  simp [z0, newS, Ps.vars]
  omega
 ·unfold heap0
  refine plainH_append hp fun cs hcs => ?_
  simp [mapC, egC, z0, Zs.top] at hcs
  rcases hcs with rfl | rfl | rfl | rfl | rfl <;> simp
theorem z0_ok (c : Bool) (b : Nat) : ZOk c 0 (z0 b) := ⟨Nat.le_refl _, ⟨List.nodup_nil, List.nodup_nil, fun x hx => by cases hx⟩, Nat.le_refl _, (fun x hx => by cases hx), newS_ok _, (fun x hx => by cases hx), rfl⟩
theorem z0_vars (b : Nat) : ∀ q ∈ (z0 b).vars (b + 5), b <= q := fun q hq => by
 simp [Zs.vars, Zs.own, z0, newE, newS, Ps.vars] at hq
 omega
theorem DoesS.low {f : FuncId} {args : List AV} {r : List (List AV) -> AV -> Prop} {Z' : Zs} (d : DoesS f args h i Z r Z') {lo : Nat} (hlo : ∀ q ∈ Z.vars i, lo <= q) (hl : lo <= h.length) :
  ∃ h' wr v, Contract Tryz.prog f args h v h' wr /\ r h' v /\ SsG [] h' i Z' /\ (∀ q ∈ wr, lo <= q) /\ h.length <= h'.length /\ (∀ q < lo, h'[q]? = h[q]?) /\ (∀ q ∈ Z'.vars i, lo <= q) := by
 obtain ⟨h', wr, v, k, hr, g', hw, hlen, hs, hv⟩ := d
 refine ⟨h', wr, v, k, hr, g', fun q hq => ?_, hlen, fun q hq => hs q (by omega) fun hh => by have := hlo q hh; omega, fun q hq => ?_⟩
 ·rcases Nat.lt_or_ge q h.length with h1 | h1
  ·exact hlo q (hw q hq h1)
  ·omega
 ·rcases hv q hq with h1 | h1
  ·exact hlo q h1
  ·omega
end
theorem sameStr_c (l : List (List UInt8)) (hl : l.length <= 1000000) (h : List (List AV)) : Contract Tryz.prog 15 [.sl 1 (enc strC l) none .no, .sl 1 (enc strC l) none .no] h (.v (.bool true)) h [] := by
 refine contract_of k15 mixed (by simp [c15]) fun hh hargs => ?_
 simp [c15]
 refine xloop_ok (D := Nat) (fun j => ⟨[(0, .sl 1 (enc strC l) none .no), (1, .sl 1 (enc strC l) none .no), (12, .v (.int .i64 (l.length : Int))), (13, .v (.int .i64 (j : Int)))], [], h, []⟩) (fun j => j <= l.length) (fun j => l.length - j) 0 (by simp) ?_ ?_
 ·simp [Leq, hh]
 ·intro j hj
  by_cases hlt : j < l.length
  ·have hw : IntKind.i64.wrap ((j : Int) + 1) = (j : Int) + 1 := wrap64 (by omega) (by omega)
   simp [hlt, strC, hw]
   refine ⟨j + 1, by omega, by omega, ?_⟩
   simp [Leq, hh]
  ·simp [hlt, hh]
def f1S : Fm := ⟨80, 0, [97], [], [98, 101, 103, 105, 110], [], [], [], [], 0⟩
def f2S : Fm := ⟨66, 0, [97], [], [], [], [], [], [], 0⟩
def f3S : Fm := ⟨69, 0, [], [], [], [], [], [], [], 0⟩
def f4S : Fm := ⟨83, 0, [], [], [], [], [], [], [], 0⟩
theorem says_begin : (says [98, 101, 103, 105, 110]).kind = 2 := by decide +kernel
set_option maxHeartbeats 2000000 in
theorem sawake_c (h : List (List AV)) (hp : plainH h) : Contract Tryz.prog 7 [] h (.v (.bool true)) h [] := by
 refine contract_of k7 mixed (by simp [c7]) fun hh hargs => ?_
 have g0 := z0_at hh hp
 have lo0 := z0_vars h.length
 have l0 : h.length <= (heap0 h).length := by unfold heap0; simp
 obtain ⟨b, hb⟩ : ∃ b, b = h.length := ⟨_, rfl⟩
 rw [<- hb] at g0 lo0
 have hvd : verdO (z0 b) [98, 101, 103, 105, 110] = none := by
  unfold verdO vdO verdict
  rw [says_begin]
  rfl
 obtain ⟨s1, hs1⟩ : ∃ s1 : Sx, s1 = ⟨[98, 101, 103, 105, 110], []⟩ := ⟨_, rfl⟩
 have p1 : parseO (z0 b) f1S = none /\ parseZ (z0 b) f1S = (z0 b).put [97] s1 := by
  have hvd' : verdO (z0 b) f1S.text = none := hvd
  unfold parseO parseZ
  rw [hvd', hs1]
  exact ⟨rfl, rfl⟩
 have g0a := (g0.app (c := fmC f1S) (by simp) (by simp [fmC_mk])).none
 have g0b := (g0a.app (c := fmC f1S) (by simp) (by simp [fmC_mk])).none
 have d1 := sparse_d g0b (z0_ok false b).ko f1S (by simp [f1S]) (by simp [f1S]) (by simp [f1S])
 rw [p1.1, p1.2] at d1
 have D1 := sdo_step g0 f1S rfl (by decide) (by decide) (by decide) (sstep80 g0a f1S rfl d1)
 obtain ⟨h1, w1, v1, k1, r1, g1, lw1, hl1, hs1', lo1⟩ := D1.low lo0 (by omega)
 subst r1
 obtain ⟨Z1, hZ1⟩ : ∃ Z1, Z1 = { (z0 b).put [97] s1 with status := ((z0 b).put [97] s1).status, skips := false, over := ((z0 b).put [97] s1).over } := ⟨_, rfl⟩
 rw [<- hZ1] at g1 lo1
 have z1 : ZOk false 1 Z1 := by rw [hZ1]; exact ((z0_ok false b).put [97] (by rw [hs1]; simp)).setT rfl _ _
 have st1 : Z1.status = 73 /\ Z1.over = false /\ Z1.skips = false /\ Z1.st = [⟨[97], 0, s1⟩] := by rw [hZ1]; exact ⟨rfl, rfl, rfl, rfl⟩
 have get1 : Z1.get [97] = some s1 := by unfold Zs.get; rw [st1.2.2.2]; rfl
 have al1 : ∀ s, allowO Z1 s = none := fun s => by unfold allowO; rw [if_neg (by rw [st1.1]; simp)]
 have b1 : bindO Z1 f2S = none := by
  have : stmtO Z1 f2S.name = (s1, none) := by
   show stmtO Z1 [97] = _
   unfold stmtO
   rw [get1]
   simp only [al1]
  unfold bindO
  rw [this, hs1]
  rfl
 have g1a := (g1.app (c := fmC f2S) (by simp) (by simp [fmC_mk])).none
 have g1b := (g1a.app (c := fmC f2S) (by simp) (by simp [fmC_mk])).none
 obtain ⟨Z2', d2, _, q2⟩ := sbind_d g1b z1.po z1.short f2S (by simp [f2S]) (by simp [f2S]) (by simp [f2S])
 obtain ⟨x, s2, hg2, hx, rfl⟩ := q2 b1
 have hg2' : Z1.get [97] = some s2 := hg2
 rw [get1] at hg2'
 injection hg2' with hg2'
 subst hg2'
 rw [b1] at d2
 have D2 := sdo_step g1 f2S (by unfold lisB; rw [st1.2.1, st1.2.2.1]; rfl) (by decide) (by decide) (by decide) (sstep66 g1a f2S rfl d2)
 obtain ⟨h2, w2, v2, k2, r2, g2, lw2, hl2, hs2, lo2⟩ := D2.low lo1 (by omega)
 subst r2
 obtain ⟨Z2, hZ2⟩ : ∃ Z2, Z2 = { ({ Z1 with S := Z1.S.put f2S.portal x } : Zs) with status := Z1.status, skips := false, over := Z1.over } := ⟨_, rfl⟩
 have g2 : SsG [] h2 (b + 5) Z2 := by rw [hZ2]; exact g2
 have lo2 : ∀ q ∈ Z2.vars (b + 5), b <= q := by rw [hZ2]; exact lo2
 have hpf : PtF false x.p := by rw [hx]; exact ⟨by rw [hs1]; simp [bindPt], by rw [hs1]; simp [bindPt], by simp [bindPt, f2S, CellsF], by simp [bindPt, RowsF]⟩
 have z2 : ZOk false 1 Z2 := by rw [hZ2]; exact (z1.putP f2S.portal hpf).setT z1.st _ _
 have st2 : Z2.status = 73 /\ Z2.over = false /\ Z2.skips = false /\ Z2.st = [⟨[97], 0, s1⟩] /\ Z2.S.get [] = some x := by
  rw [hZ2]
  refine ⟨st1.1, st1.2.1, rfl, st1.2.2.2, ?_⟩
  show (Z1.S.put [] x).get [] = some x
  rw [Ps.get_put z1.po]; rfl
 have g2a := (g2.app (c := fmC f3S) (by simp) (by simp [fmC_mk])).none
 have g2b := (g2a.app (c := fmC f3S) (by simp) (by simp [fmC_mk])).none
 obtain ⟨M, o, Z3', d3, z3', m3, ex⟩ := sexec_d g2b z2 (by omega) f3S.portal (by simp [f3S]) f3S.max
 have hxt : (says x.p.text).kind = 2 := by rw [hx]; show (says s1.text).kind = 2; rw [hs1]; exact says_begin
 obtain ⟨e1, e2, e3, e4, e5, e6, e7⟩ := ex x st2.2.2.2.2 (by unfold allowO; rw [if_neg (by rw [st2.1]; simp)]) (by rw [hx]; rfl) (by rw [hxt]; rfl) (by unfold actO; rw [if_neg (by rw [hxt]; decide)])
 subst e2
 have D3 := sdo_step g2 f3S (by unfold lisB; rw [st2.2.1, st2.2.2.1]; rfl) (by decide) (by decide) (by decide) (sstep69 g2a f3S rfl d3)
 obtain ⟨h3, w3, v3, k3, r3, g3, lw3, hl3, hs3, lo3⟩ := D3.low lo2 (by omega)
 subst r3
 have hM : M = [tgB txBegin] := by
  rw [e1]
  unfold actB
  rw [if_neg (by rw [hxt]; decide), hxt, st2.1]; rfl
 have hst3 : Z3'.status = 84 := by
  rw [e3]
  unfold actZ
  rw [if_neg (by rw [hxt]; decide)]
  show txN Z2.status (says x.p.text).kind = 84
  rw [st2.1, hxt]; rfl
 obtain ⟨Z3, hZ3⟩ : ∃ Z3, Z3 = { Z3' with status := Z3'.status, skips := false, over := Z3'.over } := ⟨_, rfl⟩
 rw [<- hZ3] at g3 lo3
 have st3 : Z3.status = 84 /\ Z3.over = false /\ Z3.skips = false /\ Z3.st = [⟨[97], 0, s1⟩] := by rw [hZ3]; exact ⟨hst3, e7.trans st2.2.1, rfl, e4.trans st2.2.2.2.1⟩
 have z3 : ZOk false 2 Z3 := by rw [hZ3]; exact z3'.setT z3'.st _ _
 have D4 := sdo_sync g3 f4S (by unfold lisB; rw [st3.2.1, st3.2.2.1]; rfl) rfl
 obtain ⟨h4, w4, v4, k4, r4, g4, lw4, hl4, hs4, lo4⟩ := D4.low lo3 (by omega)
 subst r4
 rw [st3.1] at k4
 have z4 := (z3.setT z3.st false Z3.over).ready
 have kst := sstatus_c g4
 have kst' : Contract Tryz.prog 14 [.box (b + 5) 0] h4 (.v (.int .u8 84)) h4 [] := by
  have : (readyZ { Z3 with skips := false }).status = 84 := st3.1
  rw [this] at kst; exact kst
 have kn := g4.names z4 (by omega)
 have hnm : namesK (readyZ { Z3 with skips := false }).st = [[97]] := by
  show namesK Z3.st = _
  rw [st3.2.2.2]
  unfold namesK sortS
  simp
 rw [hnm] at kn
 have hbT : bkC (tgB txBegin) = [AV.v (.int .u8 67), .v (.int .u8 0), .v (.string (strB [66, 69, 71, 73, 78])), .v (.string (strB [])), .v (.string (strB [])), .v (.int .i64 0), .v (.int .i64 0), .sl 1 [] none .no, .sl 7 [] none .no, .sl 2 [] none .no, .sl 2 [] none .no] := rfl
 have hbZ : bkC (zB 84) = [AV.v (.int .u8 90), .v (.int .u8 84), .v (.string (strB [])), .v (.string (strB [])), .v (.string (strB [])), .v (.int .i64 0), .v (.int .i64 0), .sl 1 [] none .no, .sl 7 [] none .no, .sl 2 [] none .no, .sl 2 [] none .no] := rfl
 rw [hM] at k3
 have ke := enew_c h
 have hh2 : h ++ [mapC 0 [], egC h.length 0] = h ++ [mapC 0 [], egC h.length 0] := rfl
 have kn0 := snew_c (.box (h.length + 1) 0) rfl rfl rfl (h ++ [mapC 0 [], egC h.length 0]) (by simp)
 have hheap : (h ++ [mapC 0 [], egC h.length 0]) ++ [mapC 0 [], mapC 0 [], [.mp ((h ++ [mapC 0 [], egC h.length 0]).length + 1) 1 true], [.box (h.length + 1) 0, .mp (h ++ [mapC 0 [], egC h.length 0]).length 2 false, .box ((h ++ [mapC 0 [], egC h.length 0]).length + 2) 0, .v (.int .u8 73), .v (.bool false), .v (.bool false)]] = heap0 h := by
  unfold heap0
  simp [z0, Zs.top]
 rw [hheap] at kn0
 have hlen2 : (h ++ [mapC 0 [], egC h.length 0]).length + 3 = b + 5 := by simp [hb]
 rw [hlen2] at kn0
 subst hb
 simp [c7]
 refine xcall_self (by simp) ke ?_
 simp
 refine xcall_self (by simp) kn0 ?_
 simp
 refine xcall_of k1 (by simp [fmC_mk, f1S]) (by simp) ?_
 simp
 refine xcall_of k2 (by simp [fmC_mk, f2S]) (by simp) ?_
 simp
 refine xcall_of k3 (by simp [fmC_mk, f3S]) (by simp) ?_
 simp
 refine xcall_of k4 (by simp [fmC_mk, f4S]) (by simp) ?_
 simp [hbT, hbZ]
 refine xcall_self (by simp) kst' ?_
 simp
 refine xcall_self (by simp) kn ?_
 simp
 refine xcall_of (sameStr_c [[97]] (by simp) _) (by simp [strC]) (by simp) ?_
 simp [hh]
 have hk : ∀ q < h.length, h4[q]? = h[q]? := fun q hq => by
  rw [hs4 q hq, hs3 q hq, hs2 q hq, hs1' q hq]
  unfold heap0
  rw [List.getElem?_append_left hq]
 refine ⟨by omega, leqH_kept (by omega) hk, fun q hq => ?_⟩
 rcases hq with hq | hq | hq | hq
 ·exact lw4 q hq
 ·exact lw3 q hq
 ·exact lw2 q hq
 ·exact lw1 q hq
end Go.Proofs.YtknohkmpficjgaaGreatDoor.Ax
